/-
  Rows of bytes that a slice's value owns.
-/
import Derived.Test.YtnoicjpmfchhiaaDoorPF
import Derived.Test.YtnoicjpmfchhiaaDoorS4
namespace Go.Proofs.YtnoicjpmfchhiaaDoor
open Go.RowKit

/-- The bytes bs lie in the row that a slice value owns (whatever block). -/
abbrev Owns (w : World) (v : Value) (bs : List UInt8) : Prop := w.ownsRow 0 5 1 v bs.length (bcells bs)

theorem own_form {e : TypeId} {w : World} {v : Value} {n : Nat} {xs : List Value} (h : w.ownsRow 0 e 1 v n xs) : ∃ ao c, v = .slice ao n c ∧ v.ownBlock = ao.map (·.block) := by
  rcases h.2 with ⟨hv, h0⟩ | ⟨g, cap, cur, hv, _⟩
  · exact ⟨none, 0, by rw [hv, h0], by rw [hv]; rfl⟩
  · exact ⟨some ⟨g, 0, none⟩, cap, hv, by rw [hv]; rfl⟩

/-- A row's block is no block of another element type. -/
theorem own_ne {e : TypeId} {w : World} {v : Value} {n : Nat} {xs : List Value} (h : w.ownsRow 0 e 1 v n xs) {b : Nat} {cs : Array Value} {t : TypeId} {fr : Nat × Nat} (hb : w.heap[b]? = some (.cells cs t fr)) (ht : t ≠ e) : v.ownBlock ≠ some b := by
  rcases h.2 with ⟨hv, _⟩ | ⟨g, cap, cur, hv, _, hg, _⟩
  · rw [hv]; simp [Value.ownBlock]
  · rw [hv]; intro e
    have : g = b := by simpa [Value.ownBlock] using e
    subst this; rw [hg] at hb; simp at hb; exact ht hb.2.1.symm

theorem own_lt {e : TypeId} {w : World} {v : Value} {n : Nat} {xs : List Value} (h : w.ownsRow 0 e 1 v n xs) {k : Nat} (hk : v.ownBlock = some k) : k < w.heap.size := (h.lt k hk).2

theorem own_setCell {e : TypeId} {w : World} {v : Value} {n : Nat} {xs : List Value} (h : w.ownsRow 0 e 1 v n xs) {p : Addr} (hp : v.ownBlock ≠ some p.block) (u : Value) : (w.setCell p u).ownsRow 0 e 1 v n xs := by
  obtain ⟨h1, h2⟩ := h
  refine ⟨h1, ?_⟩
  rcases h2 with h2 | ⟨g, cap, cur, hv, hg, hh, r⟩
  · exact Or.inl h2
  · refine Or.inr ⟨g, cap, cur, hv, hg, ?_, r⟩
    rw [Below.heap_setCell _ _ _ _ (by intro e; apply hp; rw [hv, e]; rfl)]; exact hh

theorem own_frame {e : TypeId} {w w' : World} {v : Value} {n : Nat} {xs : List Value} {S : Nat → Prop} (h : w.ownsRow 0 e 1 v n xs) (hf : Fr S w w') (hn : ∀ k, v.ownBlock = some k → ¬ S k) : w'.ownsRow 0 e 1 v n xs := by
  obtain ⟨h1, h2⟩ := h
  refine ⟨h1, ?_⟩
  rcases h2 with h2 | ⟨g, cap, cur, hv, hg, hh, r⟩
  · exact Or.inl h2
  · exact Or.inr ⟨g, cap, cur, hv, hg, by rw [hf.block g (lt_of_heap hh) (hn g (by rw [hv]; rfl))]; exact hh, r⟩

theorem owns_string {P : Program} {w : World} {v : Value} {bs : List UInt8} (h : Owns w v bs) (src dst : TypeId) (hs : P.underlying src = some (.slice 5)) (he : P.underlying 5 = some (.int .u8)) (hd : P.underlying dst = some .string) :
    (convert src dst v).run P w = .ok (.string ⟨bs.toArray⟩) w := by
  rcases h.2 with ⟨hv, h0⟩ | ⟨g, cap, cur, hv, _, hg, hnc, hcm, hcs, htake⟩
  · have : bs = [] := List.eq_nil_of_length_eq_zero h0
    subst this; subst hv
    rw [run_convert_bytes_string w src dst 5 none 0 0 hs he hd]
    simp [Conv.bytesToString]
    rfl
  · subst hv
    refine run_convert_bytes_back w src dst 5 ⟨g, 0, none⟩ cap bs hs he hd ?_
    intro j hj
    refine h.cells (g := g) rfl j _ ?_
    simp [bcells, hj]

theorem Tryd.info5 : (Tryd.prog.info? 5).map (fun i => (i.zero, i.size, i.bytes)) = some (some (.int .u8 0), 1, 1) := by kernel_rfl
/-- From w to w' the row of v alone may have turned; the row of v' is v's, or new. -/
def BStep (v v' : Value) (w w' : World) : Prop := Fr (fun k => some k = v.ownBlock) w w' ∧ (∀ k, v'.ownBlock = some k → v.ownBlock = some k ∨ w.heap.size ≤ k)
theorem BStep.refl (v : Value) (w : World) : BStep v v w w := ⟨Fr.refl _ _, fun _ h => Or.inl h⟩
theorem BStep.trans {v v1 v2 : Value} {w w1 w2 : World} (h : BStep v v1 w w1) (k : BStep v1 v2 w1 w2) : BStep v v2 w w2 := by
  refine ⟨h.1.trans k.1 ?_, ?_⟩
  · intro i hi e
    rcases h.2 i e.symm with h' | h'
    · exact h'.symm
    · omega
  · intro i hi
    rcases k.2 i hi with h' | h'
    · exact h.2 i h'
    · right; exact Nat.le_trans h.1.size h'
theorem BStep.same {v v1 : Value} {w w1 w2 : World} (h : Same w w1) (k : BStep v v1 w1 w2) : BStep v v1 w w2 :=
  ⟨Fr.trans (h.mono (fun _ _ f => f.elim)) k.1 (fun _ _ e => e), fun i hi => by rcases k.2 i hi with e | e; exact Or.inl e; exact Or.inr (Nat.le_trans h.size e)⟩
theorem BStep.then_same {v v1 : Value} {w w1 w2 : World} (h : BStep v v1 w w1) (k : Same w1 w2) : BStep v v1 w w2 :=
  ⟨Fr.trans h.1 k (fun _ _ f => f.elim), h.2⟩
/-- What an append leaves. -/
theorem own_push {w w1 : World} {v : Value} {bs ns : List UInt8} {g cap N : Nat} (hN : N = ns.length) (hown : w1.ownsRow 0 5 1 (.slice (some ⟨g, 0, none⟩) (bs.length + N) cap) (bs.length + N) (bcells bs ++ bcells ns)) (hgrow : w.grownBy w1 v.ownBlock) (hat : v.ownBlock = some g ∨ g = w.heap.size) :
    Owns w1 (.slice (some ⟨g, 0, none⟩) (bs ++ ns).length cap) (bs ++ ns) ∧ BStep v (.slice (some ⟨g, 0, none⟩) (bs ++ ns).length cap) w w1 := by
  subst hN
  refine ⟨?_, (Fr.refl _ w).grown hgrow (fun k hk _ => hk.symm), ?_⟩
  · show World.ownsRow _ _ _ _ _ _ _
    rw [bcells_append, List.length_append]; exact hown
  · intro k hk
    have : g = k := by simpa [Value.ownBlock] using hk
    subst this
    rcases hat with h | h
    · exact Or.inl h
    · right; omega
/-- What an append leaves, in a world whose blocks are those of w and some new ones. -/
theorem own_push_at {w W w1 : World} {v : Value} {bs ns : List UInt8} {g cap N B : Nat} (sw : Same w W) (hB : W.heap.size = B) (hN : N = ns.length) (hown : w1.ownsRow 0 5 1 (.slice (some ⟨g, 0, none⟩) (bs.length + N) cap) (bs.length + N) (bcells bs ++ bcells ns)) (hgrow : W.grownBy w1 v.ownBlock) (hat : v.ownBlock = some g ∨ g = B) :
    Owns w1 (.slice (some ⟨g, 0, none⟩) (bs ++ ns).length cap) (bs ++ ns) ∧ BStep v (.slice (some ⟨g, 0, none⟩) (bs ++ ns).length cap) w w1 := by
  obtain ⟨h1, h2⟩ := own_push hN hown hgrow (by rw [hB]; exact hat)
  exact ⟨h1, BStep.same sw h2⟩
theorem run_append_str_at {P : Program} (w : World) (t u ty e : TypeId) (i : TypeInfo) (ht : P.underlying t = some (.slice e)) (hu : P.underlying u = some .string) (hi : P.info? e = some i) (hz : i.zero = some (.int .u8 0))
    (hsize : i.size = 1) (hby : i.bytes = 1) (v : Value) (n : Nat) (xs : List Value) (hown : w.ownsRow 0 e 1 v n xs) (s : ByteArray) (hb : n + s.size ≤ 140737488355328) :
    ∃ v' w', (Builtin.append_ #[t, u] ty #[v, .string s]).run P w = .ok v' w' ∧ w'.ownsRow 0 e 1 v' (n + s.size) (xs ++ Lib.strCells s) ∧ w.grownBy w' v.ownBlock ∧ (∀ k, v'.ownBlock = some k → v.ownBlock = some k ∨ w.heap.size ≤ k) := by
  obtain ⟨v', w', hr, ho, hg, _⟩ := Lib.run_append_own_string (P := P) w 0 t u ty e i ht hu hi hz hsize hby v n xs hown s (by unfold maxLen; omega) hb (Nat.zero_le _)
  refine ⟨v', w', hr, ho, hg, ?_⟩
  have hxl : xs.length = n := by simpa using hown.1
  rcases hown.2 with ⟨rfl, rfl⟩ | ⟨g, cap, cur, rfl, _, hgb, hnc, hcm, hcs, htake⟩
  · have hx : xs = [] := List.eq_nil_of_length_eq_zero hxl
    subst hx
    obtain ⟨v2, w2, hr2, ho2, _, _⟩ := Lib.run_append_own_string (P := P) w w.heap.size t u ty e i ht hu hi hz hsize hby _ 0 [] (World.ownsRow_nil w w.heap.size e 1) s (by unfold maxLen; omega) hb (Nat.le_refl _)
    rw [hr] at hr2
    injection hr2 with e1 e2
    subst e1
    intro k hk
    exact Or.inr (ho2.lt k hk).1
  · by_cases hroom : n + s.size ≤ cap
    · have hcs' : cur.size = cap := by simpa using hcs
      have hr2 := Lib.run_append_room_string (P := P) w t u ty e i ht hu hi hsize g n cap cur hgb s hroom (by omega)
      rw [hr] at hr2
      injection hr2 with e1 e2
      subst e1
      intro k hk
      exact Or.inl hk
    · have holds : ∀ j u, xs[j]? = some u → w.cell? ((⟨g, 0, none⟩ : Addr).add j) = some u := hown.cells (g := g) rfl
      have hr2 := Lib.run_append_grow_string (P := P) w t u ty e i (.int .u8 0) ht hu hi hz ⟨g, 0, none⟩ n cap xs (by rw [hsize]; simpa using hxl) holds s (by omega) (by omega) (by rw [hby]; exact growslice_fits (by omega) (by omega))
      rw [hr] at hr2
      injection hr2 with e1 e2
      subst e1
      intro k hk
      right
      have : w.heap.size = k := by simpa [Value.ownBlock] using hk
      omega

theorem wpList_append_str {P : Program} (w : World) {ops : Array Oper} {rest : List Oper} {o : Oper} {a : Act} {Q : Exit → Act → World → Prop} (hgd : o.guard = none) (sl x : Operand) (t u : TypeId)
    (ho : o.op = .call { callee := .builtin .append, args := #[sl, x], argTypes := #[t, u] }) (e : TypeId) (i : TypeInfo) (ht : P.underlying t = some (.slice e)) (hu : P.underlying u = some .string) (hi : P.info? e = some i) (hz : i.zero = some (.int .u8 0))
    (hsize : i.size = 1) (hby : i.bytes = 1) (v : Value) (n : Nat) (xs : List Value) (hs : a.eval sl = v) (hown : w.ownsRow 0 e 1 v n xs) (s : ByteArray) (hx : a.eval x = .string s) (hb : n + s.size ≤ 140737488355328)
    (h : ∀ ao c w', w'.ownsRow 0 e 1 (.slice ao (n + s.size) c) (n + s.size) (xs ++ Lib.strCells s) → w.grownBy w' v.ownBlock → (∀ k, (Value.slice ao (n + s.size) c).ownBlock = some k → v.ownBlock = some k ∨ w.heap.size ≤ k) → wpList P ops Q rest (a.put o.dst (.slice ao (n + s.size) c)) w') : wpList P ops Q (o :: rest) a w := by
  refine wpList_plain hgd fun K hK => ?_
  obtain ⟨v', w', hr, h2, h3, h4⟩ := run_append_str_at (P := P) w t u o.type e i ht hu hi hz hsize hby v n xs hown s hb
  have hf : ∃ ao c, v' = .slice ao (n + s.size) c := by
    rcases h2.2 with ⟨hv, h0⟩ | ⟨g, cap, cur, hv, _⟩
    · exact ⟨none, 0, by rw [hv, h0]⟩
    · exact ⟨some ⟨g, 0, none⟩, cap, hv⟩
  obtain ⟨ao, c, rfl⟩ := hf
  unfold Oper.wp execOp
  simp only [ho, resolve, invoke, builtin, Sem.run_bind, Sem.run_pure, Result.andThen_ok, List.map_toArray, List.map_cons, List.map_nil, hs, hx, hr]
  exact hK _ _ (h ao c w' h2 h3 h4)

/-- Texts, one behind the other. -/
theorem bytes_length (s : ByteArray) : s.data.toList.length = s.size := Array.length_toList
theorem strCells_eq (s : ByteArray) : Lib.strCells s = bcells s.data.toList := rfl
end Go.Proofs.YtnoicjpmfchhiaaDoor
