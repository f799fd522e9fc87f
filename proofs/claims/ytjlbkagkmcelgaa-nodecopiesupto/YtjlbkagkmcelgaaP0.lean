/-
  Plain words on worlds, bytes and a Writer's cells: a frame by blocks ('Fr'), what a Writer holds ('WrAt'), and what an append to it leaves.
-/
import Derived.Test.YtjlbkagkmcelgaaPF
import Derived.WalkKit
import Derived.WalkSpells
import Derived.WalkLawsBesides
import Derived.Deep.AppendLies
import Derived.Lib.AppendStr
import Derived.Laws.IdiomStrings
namespace Go.Proofs.Ytjlbkagkmcelgaa
open Go.RowKit

theorem cell_of_two {w : World} {b : Nat} {x y : Value} {t : TypeId} (h : w.heap[b]? = some (.cells #[x, y] t (0, 0))) :
    w.cell? ⟨b, 0, none⟩ = some x ∧ w.cell? ⟨b, 1, none⟩ = some y ∧ w.frozen? ⟨b, 0, none⟩ = false ∧ w.frozen? ⟨b, 1, none⟩ = false := by
  refine ⟨?_, ?_, ?_, ?_⟩ <;> simp [World.cell?, World.frozen?, h]

theorem two_setCell {w : World} {b : Nat} {x y : Value} {t : TypeId} (h : w.heap[b]? = some (.cells #[x, y] t (0, 0))) (v : Value) :
    (w.setCell ⟨b, 1, none⟩ v).heap[b]? = some (.cells #[x, v] t (0, 0)) := by
  simp [World.setCell, Array.getElem?_modify, h]

def bcells (bs : List UInt8) : List Value := bs.map fun b => Value.int .u8 b.toNat
theorem bcells_append (a b : List UInt8) : bcells (a ++ b) = bcells a ++ bcells b := by simp [bcells]
theorem bcells_length (a : List UInt8) : (bcells a).length = a.length := by simp [bcells]

/-- The bytes bs lie in the row that a slice value owns (whatever block). -/
abbrev Owns (w : World) (v : Value) (bs : List UInt8) : Prop := w.ownsRow 0 5 1 v bs.length (bcells bs)

/-- At block b lies a Writer that New made; its bytes are bs; g: the block of its row. -/
def WrAt (w : World) (b : Nat) (g : Option Nat) (bs : List UInt8) : Prop :=
  ∃ ao c, w.heap[b]? = some (.cells #[.bool true, .slice ao bs.length c] 93 (0, 0)) ∧ Owns w (.slice ao bs.length c) bs ∧ g = ao.map (·.block)

theorem own_form {e : TypeId} {w : World} {v : Value} {n : Nat} {xs : List Value} (h : w.ownsRow 0 e 1 v n xs) : ∃ ao c, v = .slice ao n c ∧ v.ownBlock = ao.map (·.block) := by
  rcases h.2 with ⟨hv, h0⟩ | ⟨g, cap, cur, hv, _⟩
  · exact ⟨none, 0, by rw [hv, h0], by rw [hv]; rfl⟩
  · exact ⟨some ⟨g, 0, none⟩, cap, hv, by rw [hv]; rfl⟩

/-- A row's block is no block of another element type. -/
theorem own_ne {e : TypeId} {w : World} {v : Value} {n : Nat} {xs : List Value} (h : w.ownsRow 0 e 1 v n xs) {b : Nat} {cs : Array Value} {t : TypeId} {fr : Nat × Nat} (hb : w.heap[b]? = some (.cells cs t fr)) (ht : t ≠ e) : v.ownBlock ≠ some b := by
  rcases h.2 with ⟨hv, _⟩ | ⟨g, cap, cur, hv, _, hg, _⟩
  · rw [hv]; simp [Value.ownBlock]
  · rw [hv]; intro e
    have : g = b := by simpa [Value.ownBlock] using e
    subst this; rw [hg] at hb; simp at hb; exact ht hb.2.1.symm

theorem own_lt {e : TypeId} {w : World} {v : Value} {n : Nat} {xs : List Value} (h : w.ownsRow 0 e 1 v n xs) {k : Nat} (hk : v.ownBlock = some k) : k < w.heap.size := (h.lt k hk).2

theorem own_setCell {e : TypeId} {w : World} {v : Value} {n : Nat} {xs : List Value} (h : w.ownsRow 0 e 1 v n xs) {p : Addr} (hp : v.ownBlock ≠ some p.block) (u : Value) : (w.setCell p u).ownsRow 0 e 1 v n xs := by
  obtain ⟨h1, h2⟩ := h
  refine ⟨h1, ?_⟩
  rcases h2 with h2 | ⟨g, cap, cur, hv, hg, hh, r⟩
  · exact Or.inl h2
  · refine Or.inr ⟨g, cap, cur, hv, hg, ?_, r⟩
    rw [Below.heap_setCell _ _ _ _ (by intro e; apply hp; rw [hv, e]; rfl)]; exact hh

theorem own_frame {e : TypeId} {w w' : World} {v : Value} {n : Nat} {xs : List Value} {S : Nat → Prop} (h : w.ownsRow 0 e 1 v n xs) (hf : Fr S w w') (hn : ∀ k, v.ownBlock = some k → ¬ S k) : w'.ownsRow 0 e 1 v n xs := by
  obtain ⟨h1, h2⟩ := h
  refine ⟨h1, ?_⟩
  rcases h2 with h2 | ⟨g, cap, cur, hv, hg, hh, r⟩
  · exact Or.inl h2
  · exact Or.inr ⟨g, cap, cur, hv, hg, by rw [hf.block g (lt_of_heap hh) (hn g (by rw [hv]; rfl))]; exact hh, r⟩

/-- From w to w' the Writer at b (its row at g, then at g') alone may have turned. -/
def WrStep (b : Nat) (g g' : Option Nat) (w w' : World) : Prop := Fr (fun k => k = b ∨ some k = g) w w' ∧ (∀ k, g' = some k → g = some k ∨ w.heap.size ≤ k)
theorem WrStep.refl (b : Nat) (g : Option Nat) (w : World) : WrStep b g g w w := ⟨Fr.refl _ _, fun _ h => Or.inl h⟩
theorem WrStep.trans {b : Nat} {g g1 g2 : Option Nat} {w w1 w2 : World} (h : WrStep b g g1 w w1) (k : WrStep b g1 g2 w1 w2) : WrStep b g g2 w w2 := by
  refine ⟨h.1.trans k.1 ?_, ?_⟩
  · rintro i hi (rfl | e)
    · exact Or.inl rfl
    · rcases h.2 i e.symm with h' | h'
      · exact Or.inr h'.symm
      · omega
  · intro i hi
    rcases k.2 i hi with h' | h'
    · exact h.2 i h'
    · right; exact Nat.le_trans h.1.size h'

/-- What an append to a Writer's row, and the store of the new slice, leave. -/
theorem wr_pushed {w w0 w1 : World} {b : Nat} {ao : Option Addr} {c : Nat} {bs ns : List UInt8} {v' : Value}
    (hblk : w.heap[b]? = some (.cells #[.bool true, .slice ao bs.length c] 93 (0, 0))) (hown0 : Owns w (.slice ao bs.length c) bs)
    (hf0 : Fr (fun _ => False) w w0) (hown : w1.ownsRow 0 5 1 v' (bs.length + ns.length) (bcells bs ++ bcells ns)) (hgrow : w0.grownBy w1 (Value.ownBlock (.slice ao bs.length c)))
    (hat : ∀ k, v'.ownBlock = some k → Value.ownBlock (.slice ao bs.length c) = some k ∨ w.heap.size ≤ k) :
    ∃ g', WrAt (w1.setCell ⟨b, 1, none⟩ v') b g' (bs ++ ns) ∧ WrStep b (ao.map (·.block)) g' w (w1.setCell ⟨b, 1, none⟩ v') := by
  have hb := lt_of_heap hblk
  have hrow : Value.ownBlock (.slice ao bs.length c) = ao.map (·.block) := by cases ao <;> rfl
  have hne : Value.ownBlock (.slice ao bs.length c) ≠ some b := own_ne hown0 hblk (by decide)
  have h1 : w1.heap[b]? = some (.cells #[.bool true, .slice ao bs.length c] 93 (0, 0)) := by
    rw [hgrow.block b (Nat.lt_of_lt_of_le hb hf0.size) (fun e => hne e.symm), hf0.block b hb (fun f => f)]; exact hblk
  obtain ⟨ao', c', hv', hob⟩ := own_form hown
  have hne' : v'.ownBlock ≠ some b := own_ne hown h1 (by decide)
  refine ⟨ao'.map (·.block), ⟨ao', c', ?_, ?_, rfl⟩, ?_, ?_⟩
  · rw [two_setCell h1, hv']; simp
  · unfold Owns; rw [bcells_append]; rw [hv'] at hown hne' ⊢; have := own_setCell hown (p := ⟨b, 1, none⟩) hne' (.slice ao' (bs.length + ns.length) c'); simpa using this
  · refine Fr.setCell ?_ (fun _ => Or.inl rfl) _
    refine (hf0.mono (fun _ _ f => f.elim)).grown hgrow ?_
    intro k hk _; right; rw [hrow] at hk; exact hk.symm
  · intro k hk
    have := hat k (by rw [hob]; exact hk)
    rwa [hrow] at this

/-- The Writer's own cells behind an append to its row. -/
theorem wr_cells {w w0 w1 : World} {b : Nat} {ao : Option Addr} {c : Nat} {bs : List UInt8}
    (hblk : w.heap[b]? = some (.cells #[.bool true, .slice ao bs.length c] 93 (0, 0))) (hown0 : Owns w (.slice ao bs.length c) bs)
    (hf0 : Fr (fun _ => False) w w0) (hgrow : w0.grownBy w1 (Value.ownBlock (.slice ao bs.length c))) :
    w1.cell? ⟨b, 0, none⟩ = some (.bool true) ∧ w1.cell? ⟨b, 1, none⟩ = some (.slice ao bs.length c) ∧ w1.frozen? ⟨b, 0, none⟩ = false ∧ w1.frozen? ⟨b, 1, none⟩ = false := by
  have hb := lt_of_heap hblk
  have hne : Value.ownBlock (.slice ao bs.length c) ≠ some b := own_ne hown0 hblk (by decide)
  refine cell_of_two (t := 93) ?_
  rw [hgrow.block b (Nat.lt_of_lt_of_le hb hf0.size) (fun e => hne e.symm), hf0.block b hb (fun f => f)]; exact hblk

/-- One byte appended to a Writer's row, and the new slice stored. -/
theorem wr_push {w w0 w1 : World} {b : Nat} {ao : Option Addr} {c : Nat} {bs : List UInt8} (x : UInt8) {X : Int} (hX : X = x.toNat) {g cap : Nat} (hf0 : Fr (fun _ => False) w w0)
    (hblk : w.heap[b]? = some (.cells #[.bool true, .slice ao bs.length c] 93 (0, 0))) (hown0 : Owns w (.slice ao bs.length c) bs)
    (hown : w1.ownsRow 0 5 1 (.slice (some ⟨g, 0, none⟩) (bs.length + 1) cap) (bs.length + 1) (bcells bs ++ [.int .u8 X])) (hgrow : w0.grownBy w1 (Value.ownBlock (.slice ao bs.length c)))
    (hat : Value.ownBlock (.slice ao bs.length c) = some g ∨ g = w.heap.size + 1) :
    ∃ g', WrAt (w1.setCell ⟨b, 1, none⟩ (.slice (some ⟨g, 0, none⟩) (bs.length + 1) cap)) b g' (bs ++ [x]) ∧ WrStep b (ao.map (·.block)) g' w (w1.setCell ⟨b, 1, none⟩ (.slice (some ⟨g, 0, none⟩) (bs.length + 1) cap)) := by
  subst hX
  refine wr_pushed (ns := [x]) hblk hown0 hf0 (by simpa [bcells] using hown) hgrow ?_
  intro k hk
  have : g = k := by simpa [Value.ownBlock] using hk
  subst this
  rcases hat with h | h
  · exact Or.inl h
  · right; omega

/-- A string appended to a row: where the new slice lies. -/
theorem run_append_str_at {P : Program} (w : World) (t u ty e : TypeId) (i : TypeInfo) (ht : P.underlying t = some (.slice e)) (hu : P.underlying u = some .string) (hi : P.info? e = some i) (hz : i.zero = some (.int .u8 0))
    (hsize : i.size = 1) (hby : i.bytes = 1) (v : Value) (n : Nat) (xs : List Value) (hown : w.ownsRow 0 e 1 v n xs) (s : ByteArray) (hb : n + s.size ≤ 140737488355328) :
    ∃ v' w', (Builtin.append_ #[t, u] ty #[v, .string s]).run P w = .ok v' w' ∧ w'.ownsRow 0 e 1 v' (n + s.size) (xs ++ Lib.strCells s) ∧ w.grownBy w' v.ownBlock ∧ (∀ k, v'.ownBlock = some k → v.ownBlock = some k ∨ w.heap.size ≤ k) := by
  obtain ⟨v', w', hr, ho, hg, _⟩ := Lib.run_append_own_string (P := P) w 0 t u ty e i ht hu hi hz hsize hby v n xs hown s (by unfold maxLen; omega) hb (Nat.zero_le _)
  refine ⟨v', w', hr, ho, hg, ?_⟩
  have hxl : xs.length = n := by simpa using hown.1
  rcases hown.2 with ⟨rfl, rfl⟩ | ⟨g, cap, cur, rfl, _, hgb, hnc, hcm, hcs, htake⟩
  · have hx : xs = [] := List.eq_nil_of_length_eq_zero hxl
    subst hx
    obtain ⟨v2, w2, hr2, ho2, _, _⟩ := Lib.run_append_own_string (P := P) w w.heap.size t u ty e i ht hu hi hz hsize hby _ 0 [] (World.ownsRow_nil w w.heap.size e 1) s (by unfold maxLen; omega) hb (Nat.le_refl _)
    rw [hr] at hr2
    injection hr2 with e1 e2
    subst e1
    intro k hk
    exact Or.inr (ho2.lt k hk).1
  · by_cases hroom : n + s.size ≤ cap
    · have hcs' : cur.size = cap := by simpa using hcs
      have hr2 := Lib.run_append_room_string (P := P) w t u ty e i ht hu hi hsize g n cap cur hgb s hroom (by omega)
      rw [hr] at hr2
      injection hr2 with e1 e2
      subst e1
      intro k hk
      exact Or.inl hk
    · have holds : ∀ j u, xs[j]? = some u → w.cell? ((⟨g, 0, none⟩ : Addr).add j) = some u := hown.cells (g := g) rfl
      have hr2 := Lib.run_append_grow_string (P := P) w t u ty e i (.int .u8 0) ht hu hi hz ⟨g, 0, none⟩ n cap xs (by rw [hsize]; simpa using hxl) holds s (by omega) (by omega) (by rw [hby]; exact growslice_fits (by omega) (by omega))
      rw [hr] at hr2
      injection hr2 with e1 e2
      subst e1
      intro k hk
      right
      have : w.heap.size = k := by simpa [Value.ownBlock] using hk
      omega

theorem wpList_append_str {P : Program} (w : World) {ops : Array Oper} {rest : List Oper} {o : Oper} {a : Act} {Q : Exit → Act → World → Prop} (hgd : o.guard = none) (sl x : Operand) (t u : TypeId)
    (ho : o.op = .call { callee := .builtin .append, args := #[sl, x], argTypes := #[t, u] }) (e : TypeId) (i : TypeInfo) (ht : P.underlying t = some (.slice e)) (hu : P.underlying u = some .string) (hi : P.info? e = some i) (hz : i.zero = some (.int .u8 0))
    (hsize : i.size = 1) (hby : i.bytes = 1) (v : Value) (n : Nat) (xs : List Value) (hs : a.eval sl = v) (hown : w.ownsRow 0 e 1 v n xs) (s : ByteArray) (hx : a.eval x = .string s) (hb : n + s.size ≤ 140737488355328)
    (h : ∀ ao c w', w'.ownsRow 0 e 1 (.slice ao (n + s.size) c) (n + s.size) (xs ++ Lib.strCells s) → w.grownBy w' v.ownBlock → (∀ k, (Value.slice ao (n + s.size) c).ownBlock = some k → v.ownBlock = some k ∨ w.heap.size ≤ k) → wpList P ops Q rest (a.put o.dst (.slice ao (n + s.size) c)) w') : wpList P ops Q (o :: rest) a w := by
  refine wpList_plain hgd fun K hK => ?_
  obtain ⟨v', w', hr, h2, h3, h4⟩ := run_append_str_at (P := P) w t u o.type e i ht hu hi hz hsize hby v n xs hown s hb
  have hf : ∃ ao c, v' = .slice ao (n + s.size) c := by
    rcases h2.2 with ⟨hv, h0⟩ | ⟨g, cap, cur, hv, _⟩
    · exact ⟨none, 0, by rw [hv, h0]⟩
    · exact ⟨some ⟨g, 0, none⟩, cap, hv⟩
  obtain ⟨ao, c, rfl⟩ := hf
  unfold Oper.wp execOp
  simp only [ho, resolve, invoke, builtin, Sem.run_bind, Sem.run_pure, Result.andThen_ok, List.map_toArray, List.map_cons, List.map_nil, hs, hx, hr]
  exact hK _ _ (h ao c w' h2 h3 h4)

/-- Texts, one behind the other. -/
def flat (ss : List ByteArray) : List UInt8 := (ss.map fun s => s.data.toList).flatten
theorem flat_append (a b : List ByteArray) : flat (a ++ b) = flat a ++ flat b := by simp [flat]
theorem flat_take_succ (ss : List ByteArray) (k : Nat) (h : k < ss.length) : flat (ss.take (k + 1)) = flat (ss.take k) ++ ss[k].data.toList := by
  rw [List.take_succ_eq_append_getElem h, flat_append]; simp [flat]
theorem flat_take_le (ss : List ByteArray) (k : Nat) : (flat (ss.take k)).length ≤ (flat ss).length := by
  have : (flat ss).length = (flat (ss.take k)).length + (flat (ss.drop k)).length := by
    rw [← List.length_append, ← flat_append, List.take_append_drop]
  omega
theorem bytes_length (s : ByteArray) : s.data.toList.length = s.size := Array.length_toList

theorem strCells_eq (s : ByteArray) : Lib.strCells s = bcells s.data.toList := rfl

/-- A string appended to a Writer's row, and the new slice stored. -/
theorem wr_text {w w1 : World} {b : Nat} {ao ao' : Option Addr} {c c' : Nat} {bs : List UInt8} (s : ByteArray)
    (hblk : w.heap[b]? = some (.cells #[.bool true, .slice ao bs.length c] 93 (0, 0))) (hown0 : Owns w (.slice ao bs.length c) bs)
    (hown : w1.ownsRow 0 5 1 (.slice ao' (bs.length + s.size) c') (bs.length + s.size) (bcells bs ++ Lib.strCells s)) (hgrow : w.grownBy w1 (Value.ownBlock (.slice ao bs.length c)))
    (hat : ∀ k, (Value.slice ao' (bs.length + s.size) c').ownBlock = some k → Value.ownBlock (.slice ao bs.length c) = some k ∨ w.heap.size ≤ k) :
    ∃ g', WrAt (w1.setCell ⟨b, 1, none⟩ (.slice ao' (bs.length + s.size) c')) b g' (bs ++ s.data.toList) ∧ WrStep b (ao.map (·.block)) g' w (w1.setCell ⟨b, 1, none⟩ (.slice ao' (bs.length + s.size) c')) := by
  have hl : s.data.toList.length = s.size := Array.length_toList
  refine wr_pushed (ns := s.data.toList) hblk hown0 (Fr.refl _ w) ?_ hgrow hat
  rw [strCells_eq] at hown
  rw [hl]; exact hown

/-- 'string(b)' of a row that is owned. -/
theorem owns_string {P : Program} {w : World} {v : Value} {bs : List UInt8} (h : Owns w v bs) (src dst : TypeId) (hs : P.underlying src = some (.slice 5)) (he : P.underlying 5 = some (.int .u8)) (hd : P.underlying dst = some .string) :
    (convert src dst v).run P w = .ok (.string ⟨bs.toArray⟩) w := by
  rcases h.2 with ⟨hv, h0⟩ | ⟨g, cap, cur, hv, _, hg, hnc, hcm, hcs, htake⟩
  · have : bs = [] := List.eq_nil_of_length_eq_zero h0
    subst this; subst hv
    rw [run_convert_bytes_string w src dst 5 none 0 0 hs he hd]
    simp [Conv.bytesToString]
    rfl
  · subst hv
    refine run_convert_bytes_back w src dst 5 ⟨g, 0, none⟩ cap bs hs he hd ?_
    intro j hj
    refine h.cells (g := g) rfl j _ ?_
    simp [bcells, hj]

end Go.Proofs.Ytjlbkagkmcelgaa
