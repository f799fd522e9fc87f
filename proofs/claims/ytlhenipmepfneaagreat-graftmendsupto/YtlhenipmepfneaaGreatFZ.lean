/- Picked: ND, X0. -/
import Derived.Test.YtlhenipmepfneaaGreatK4
import Derived.Test.YtlhenipmepfneaaGreatKL
import Derived.WalkKit
import Derived.WalkSpells
import Derived.WalkLawsBesides
import Derived.Deep.AppendLies
import Derived.Lib.AppendStr
import Derived.Laws.IdiomStrings
import Derived.Test.YtlhenipmepfneaaGreatProg
import Derived.Deep.LoopGhost
import Derived.Laws.Rows
import Derived.Deep.MidRow
import Derived.Deep.DeepMust
import Derived.Handy
import Derived.Laws.BitsAllLaws
import Derived.Deep.RegionLaw
import Derived.Deep.DrawnRows
import Derived.Lib.Strings
import Derived.Deep.QuietTactic
import Derived.BigQuiet
import Derived.Laws.ResultCell
import Derived.Laws.CopyOwn
import Derived.ChangeKeysEq
import Derived.BigFrame
import Derived.Deep.RegionHeld3
import Derived.Laws.DeepNot64
import Derived.Lib.LazyBuf
import Derived.Deep.OwnRows
import Derived.Test.YtlhenipmepfneaaGreatRows
import Derived.ProofKit
import Derived.OpenShut
import Derived.SliceStrings
import Derived.JoinedCond
import Derived.Deep.Slices
import Derived.RegionTactic
import Derived.Deep.RegionWith
import Derived.Laws.Concat
namespace Go.Proofs.YtlhenipmepfneaaGreat
open Go.RowKit

theorem Fr.frozen {S : Nat → Prop} {w w' : World} (h : Fr S w w') {p : Addr} (hp : p.block < w.heap.size) (hn : ¬ S p.block) : w'.frozen? p = w.frozen? p := World.frozen?_of_block (w := w) (h.block p.block hp hn)

theorem cell_of_two {w : World} {b : Nat} {x y : Value} {t : TypeId} (h : w.heap[b]? = some (.cells #[x, y] t (0, 0))) :
    w.cell? ⟨b, 0, none⟩ = some x ∧ w.cell? ⟨b, 1, none⟩ = some y ∧ w.frozen? ⟨b, 0, none⟩ = false ∧ w.frozen? ⟨b, 1, none⟩ = false := by
  refine ⟨?_, ?_, ?_, ?_⟩ <;> simp [World.cell?, World.frozen?, h]

theorem two_setCell {w : World} {b : Nat} {x y : Value} {t : TypeId} (h : w.heap[b]? = some (.cells #[x, y] t (0, 0))) (v : Value) :
    (w.setCell ⟨b, 1, none⟩ v).heap[b]? = some (.cells #[x, v] t (0, 0)) := by
  simp [World.setCell, Array.getElem?_modify, h]

/-- The bytes bs lie in the row that a slice value owns (whatever block). -/
abbrev Owns (w : World) (v : Value) (bs : List UInt8) : Prop := w.ownsRow 0 5 1 v bs.length (bcells bs)

/-- At block b lies a Writer that New made; its bytes are bs; g: the block of its row. -/
def WrAt (w : World) (b : Nat) (g : Option Nat) (bs : List UInt8) : Prop :=
  ∃ ao c, w.heap[b]? = some (.cells #[.bool true, .slice ao bs.length c] 150 (0, 0)) ∧ Owns w (.slice ao bs.length c) bs ∧ g = ao.map (·.block)

theorem own_form {e : TypeId} {w : World} {v : Value} {n : Nat} {xs : List Value} (h : w.ownsRow 0 e 1 v n xs) : ∃ ao c, v = .slice ao n c ∧ v.ownBlock = ao.map (·.block) := by
  rcases h.2 with ⟨hv, h0⟩ | ⟨g, cap, cur, hv, _⟩
  · exact ⟨none, 0, by rw [hv, h0], by rw [hv]; rfl⟩
  · exact ⟨some ⟨g, 0, none⟩, cap, hv, by rw [hv]; rfl⟩

/-- A row's block is no block of another element type. -/
theorem own_ne {e : TypeId} {w : World} {v : Value} {n : Nat} {xs : List Value} (h : w.ownsRow 0 e 1 v n xs) {b : Nat} {cs : Array Value} {t : TypeId} {fr : Nat × Nat} (hb : w.heap[b]? = some (.cells cs t fr)) (ht : t ≠ e) : v.ownBlock ≠ some b := by
  rcases h.2 with ⟨hv, _⟩ | ⟨g, cap, cur, hv, _, hg, _⟩
  · rw [hv]; simp [Value.ownBlock]
  · rw [hv]; intro e
    have : g = b := by simpa [Value.ownBlock] using e
    subst this; rw [hg] at hb; simp at hb; exact ht hb.2.1.symm

theorem own_lt {e : TypeId} {w : World} {v : Value} {n : Nat} {xs : List Value} (h : w.ownsRow 0 e 1 v n xs) {k : Nat} (hk : v.ownBlock = some k) : k < w.heap.size := (h.lt k hk).2

theorem own_setCell {e : TypeId} {w : World} {v : Value} {n : Nat} {xs : List Value} (h : w.ownsRow 0 e 1 v n xs) {p : Addr} (hp : v.ownBlock ≠ some p.block) (u : Value) : (w.setCell p u).ownsRow 0 e 1 v n xs := by
  obtain ⟨h1, h2⟩ := h
  refine ⟨h1, ?_⟩
  rcases h2 with h2 | ⟨g, cap, cur, hv, hg, hh, r⟩
  · exact Or.inl h2
  · refine Or.inr ⟨g, cap, cur, hv, hg, ?_, r⟩
    rw [Below.heap_setCell _ _ _ _ (by intro e; apply hp; rw [hv, e]; rfl)]; exact hh

theorem own_frame {e : TypeId} {w w' : World} {v : Value} {n : Nat} {xs : List Value} {S : Nat → Prop} (h : w.ownsRow 0 e 1 v n xs) (hf : Fr S w w') (hn : ∀ k, v.ownBlock = some k → ¬ S k) : w'.ownsRow 0 e 1 v n xs := by
  obtain ⟨h1, h2⟩ := h
  refine ⟨h1, ?_⟩
  rcases h2 with h2 | ⟨g, cap, cur, hv, hg, hh, r⟩
  · exact Or.inl h2
  · exact Or.inr ⟨g, cap, cur, hv, hg, by rw [hf.block g (lt_of_heap hh) (hn g (by rw [hv]; rfl))]; exact hh, r⟩

/-- From w to w' the Writer at b (its row at g, then at g') alone may have turned. -/
def WrStep (b : Nat) (g g' : Option Nat) (w w' : World) : Prop := Fr (fun k => k = b ∨ some k = g) w w' ∧ (∀ k, g' = some k → g = some k ∨ w.heap.size ≤ k)
theorem WrStep.refl (b : Nat) (g : Option Nat) (w : World) : WrStep b g g w w := ⟨Fr.refl _ _, fun _ h => Or.inl h⟩
theorem WrStep.trans {b : Nat} {g g1 g2 : Option Nat} {w w1 w2 : World} (h : WrStep b g g1 w w1) (k : WrStep b g1 g2 w1 w2) : WrStep b g g2 w w2 := by
  refine ⟨h.1.trans k.1 ?_, ?_⟩
  · rintro i hi (rfl | e)
    · exact Or.inl rfl
    · rcases h.2 i e.symm with h' | h'
      · exact Or.inr h'.symm
      · omega
  · intro i hi
    rcases k.2 i hi with h' | h'
    · exact h.2 i h'
    · right; exact Nat.le_trans h.1.size h'

/-- What an append to a Writer's row, and the store of the new slice, leave. -/
theorem wr_pushed {w w0 w1 : World} {b : Nat} {ao : Option Addr} {c : Nat} {bs ns : List UInt8} {v' : Value}
    (hblk : w.heap[b]? = some (.cells #[.bool true, .slice ao bs.length c] 150 (0, 0))) (hown0 : Owns w (.slice ao bs.length c) bs)
    (hf0 : Fr (fun _ => False) w w0) (hown : w1.ownsRow 0 5 1 v' (bs.length + ns.length) (bcells bs ++ bcells ns)) (hgrow : w0.grownBy w1 (Value.ownBlock (.slice ao bs.length c)))
    (hat : ∀ k, v'.ownBlock = some k → Value.ownBlock (.slice ao bs.length c) = some k ∨ w.heap.size ≤ k) :
    ∃ g', WrAt (w1.setCell ⟨b, 1, none⟩ v') b g' (bs ++ ns) ∧ WrStep b (ao.map (·.block)) g' w (w1.setCell ⟨b, 1, none⟩ v') := by
  have hb := lt_of_heap hblk
  have hrow : Value.ownBlock (.slice ao bs.length c) = ao.map (·.block) := by cases ao <;> rfl
  have hne : Value.ownBlock (.slice ao bs.length c) ≠ some b := own_ne hown0 hblk (by decide)
  have h1 : w1.heap[b]? = some (.cells #[.bool true, .slice ao bs.length c] 150 (0, 0)) := by
    rw [hgrow.block b (Nat.lt_of_lt_of_le hb hf0.size) (fun e => hne e.symm), hf0.block b hb (fun f => f)]; exact hblk
  obtain ⟨ao', c', hv', hob⟩ := own_form hown
  have hne' : v'.ownBlock ≠ some b := own_ne hown h1 (by decide)
  refine ⟨ao'.map (·.block), ⟨ao', c', ?_, ?_, rfl⟩, ?_, ?_⟩
  · rw [two_setCell h1, hv']; simp
  · unfold Owns; rw [bcells_append]; rw [hv'] at hown hne' ⊢; have := own_setCell hown (p := ⟨b, 1, none⟩) hne' (.slice ao' (bs.length + ns.length) c'); simpa using this
  · refine Fr.setCell ?_ (fun _ => Or.inl rfl) _
    refine (hf0.mono (fun _ _ f => f.elim)).grown hgrow ?_
    intro k hk _; right; rw [hrow] at hk; exact hk.symm
  · intro k hk
    have := hat k (by rw [hob]; exact hk)
    rwa [hrow] at this

/-- The Writer's own cells behind an append to its row. -/
theorem wr_cells {w w0 w1 : World} {b : Nat} {ao : Option Addr} {c : Nat} {bs : List UInt8}
    (hblk : w.heap[b]? = some (.cells #[.bool true, .slice ao bs.length c] 150 (0, 0))) (hown0 : Owns w (.slice ao bs.length c) bs)
    (hf0 : Fr (fun _ => False) w w0) (hgrow : w0.grownBy w1 (Value.ownBlock (.slice ao bs.length c))) :
    w1.cell? ⟨b, 0, none⟩ = some (.bool true) ∧ w1.cell? ⟨b, 1, none⟩ = some (.slice ao bs.length c) ∧ w1.frozen? ⟨b, 0, none⟩ = false ∧ w1.frozen? ⟨b, 1, none⟩ = false := by
  have hb := lt_of_heap hblk
  have hne : Value.ownBlock (.slice ao bs.length c) ≠ some b := own_ne hown0 hblk (by decide)
  refine cell_of_two (t := 150) ?_
  rw [hgrow.block b (Nat.lt_of_lt_of_le hb hf0.size) (fun e => hne e.symm), hf0.block b hb (fun f => f)]; exact hblk

/-- One byte appended to a Writer's row, and the new slice stored. -/
theorem wr_push {w w0 w1 : World} {b : Nat} {ao : Option Addr} {c : Nat} {bs : List UInt8} (x : UInt8) {X : Int} (hX : X = x.toNat) {g cap : Nat} (hf0 : Fr (fun _ => False) w w0)
    (hblk : w.heap[b]? = some (.cells #[.bool true, .slice ao bs.length c] 150 (0, 0))) (hown0 : Owns w (.slice ao bs.length c) bs)
    (hown : w1.ownsRow 0 5 1 (.slice (some ⟨g, 0, none⟩) (bs.length + 1) cap) (bs.length + 1) (bcells bs ++ [.int .u8 X])) (hgrow : w0.grownBy w1 (Value.ownBlock (.slice ao bs.length c)))
    (hat : Value.ownBlock (.slice ao bs.length c) = some g ∨ g = w.heap.size + 1) :
    ∃ g', WrAt (w1.setCell ⟨b, 1, none⟩ (.slice (some ⟨g, 0, none⟩) (bs.length + 1) cap)) b g' (bs ++ [x]) ∧ WrStep b (ao.map (·.block)) g' w (w1.setCell ⟨b, 1, none⟩ (.slice (some ⟨g, 0, none⟩) (bs.length + 1) cap)) := by
  subst hX
  refine wr_pushed (ns := [x]) hblk hown0 hf0 (by simpa [bcells] using hown) hgrow ?_
  intro k hk
  have : g = k := by simpa [Value.ownBlock] using hk
  subst this
  rcases hat with h | h
  · exact Or.inl h
  · right; omega

/-- A string appended to a row: where the new slice lies. -/
theorem run_append_str_at {P : Program} (w : World) (t u ty e : TypeId) (i : TypeInfo) (ht : P.underlying t = some (.slice e)) (hu : P.underlying u = some .string) (hi : P.info? e = some i) (hz : i.zero = some (.int .u8 0))
    (hsize : i.size = 1) (hby : i.bytes = 1) (v : Value) (n : Nat) (xs : List Value) (hown : w.ownsRow 0 e 1 v n xs) (s : ByteArray) (hb : n + s.size ≤ 140737488355328) :
    ∃ v' w', (Builtin.append_ #[t, u] ty #[v, .string s]).run P w = .ok v' w' ∧ w'.ownsRow 0 e 1 v' (n + s.size) (xs ++ Lib.strCells s) ∧ w.grownBy w' v.ownBlock ∧ (∀ k, v'.ownBlock = some k → v.ownBlock = some k ∨ w.heap.size ≤ k) := by
  obtain ⟨v', w', hr, ho, hg, _⟩ := Lib.run_append_own_string (P := P) w 0 t u ty e i ht hu hi hz hsize hby v n xs hown s (by unfold maxLen; omega) hb (Nat.zero_le _)
  refine ⟨v', w', hr, ho, hg, ?_⟩
  have hxl : xs.length = n := by simpa using hown.1
  rcases hown.2 with ⟨rfl, rfl⟩ | ⟨g, cap, cur, rfl, _, hgb, hnc, hcm, hcs, htake⟩
  · have hx : xs = [] := List.eq_nil_of_length_eq_zero hxl
    subst hx
    obtain ⟨v2, w2, hr2, ho2, _, _⟩ := Lib.run_append_own_string (P := P) w w.heap.size t u ty e i ht hu hi hz hsize hby _ 0 [] (World.ownsRow_nil w w.heap.size e 1) s (by unfold maxLen; omega) hb (Nat.le_refl _)
    rw [hr] at hr2
    injection hr2 with e1 e2
    subst e1
    intro k hk
    exact Or.inr (ho2.lt k hk).1
  · by_cases hroom : n + s.size ≤ cap
    · have hcs' : cur.size = cap := by simpa using hcs
      have hr2 := Lib.run_append_room_string (P := P) w t u ty e i ht hu hi hsize g n cap cur hgb s hroom (by omega)
      rw [hr] at hr2
      injection hr2 with e1 e2
      subst e1
      intro k hk
      exact Or.inl hk
    · have holds : ∀ j u, xs[j]? = some u → w.cell? ((⟨g, 0, none⟩ : Addr).add j) = some u := hown.cells (g := g) rfl
      have hr2 := Lib.run_append_grow_string (P := P) w t u ty e i (.int .u8 0) ht hu hi hz ⟨g, 0, none⟩ n cap xs (by rw [hsize]; simpa using hxl) holds s (by omega) (by omega) (by rw [hby]; exact growslice_fits (by omega) (by omega))
      rw [hr] at hr2
      injection hr2 with e1 e2
      subst e1
      intro k hk
      right
      have : w.heap.size = k := by simpa [Value.ownBlock] using hk
      omega

theorem wpList_append_str {P : Program} (w : World) {ops : Array Oper} {rest : List Oper} {o : Oper} {a : Act} {Q : Exit → Act → World → Prop} (hgd : o.guard = none) (sl x : Operand) (t u : TypeId)
    (ho : o.op = .call { callee := .builtin .append, args := #[sl, x], argTypes := #[t, u] }) (e : TypeId) (i : TypeInfo) (ht : P.underlying t = some (.slice e)) (hu : P.underlying u = some .string) (hi : P.info? e = some i) (hz : i.zero = some (.int .u8 0))
    (hsize : i.size = 1) (hby : i.bytes = 1) (v : Value) (n : Nat) (xs : List Value) (hs : a.eval sl = v) (hown : w.ownsRow 0 e 1 v n xs) (s : ByteArray) (hx : a.eval x = .string s) (hb : n + s.size ≤ 140737488355328)
    (h : ∀ ao c w', w'.ownsRow 0 e 1 (.slice ao (n + s.size) c) (n + s.size) (xs ++ Lib.strCells s) → w.grownBy w' v.ownBlock → (∀ k, (Value.slice ao (n + s.size) c).ownBlock = some k → v.ownBlock = some k ∨ w.heap.size ≤ k) → wpList P ops Q rest (a.put o.dst (.slice ao (n + s.size) c)) w') : wpList P ops Q (o :: rest) a w := by
  refine wpList_plain hgd fun K hK => ?_
  obtain ⟨v', w', hr, h2, h3, h4⟩ := run_append_str_at (P := P) w t u o.type e i ht hu hi hz hsize hby v n xs hown s hb
  have hf : ∃ ao c, v' = .slice ao (n + s.size) c := by
    rcases h2.2 with ⟨hv, h0⟩ | ⟨g, cap, cur, hv, _⟩
    · exact ⟨none, 0, by rw [hv, h0]⟩
    · exact ⟨some ⟨g, 0, none⟩, cap, hv⟩
  obtain ⟨ao, c, rfl⟩ := hf
  unfold Oper.wp execOp
  simp only [ho, resolve, invoke, builtin, Sem.run_bind, Sem.run_pure, Result.andThen_ok, List.map_toArray, List.map_cons, List.map_nil, hs, hx, hr]
  exact hK _ _ (h ao c w' h2 h3 h4)

/-- Texts, one behind the other. -/
def flat (ss : List ByteArray) : List UInt8 := (ss.map fun s => s.data.toList).flatten
theorem flat_append (a b : List ByteArray) : flat (a ++ b) = flat a ++ flat b := by simp [flat]
theorem flat_take_succ (ss : List ByteArray) (k : Nat) (h : k < ss.length) : flat (ss.take (k + 1)) = flat (ss.take k) ++ ss[k].data.toList := by
  rw [List.take_succ_eq_append_getElem h, flat_append]; simp [flat]
theorem flat_take_le (ss : List ByteArray) (k : Nat) : (flat (ss.take k)).length ≤ (flat ss).length := by
  have : (flat ss).length = (flat (ss.take k)).length + (flat (ss.drop k)).length := by
    rw [← List.length_append, ← flat_append, List.take_append_drop]
  omega
theorem strCells_eq (s : ByteArray) : Lib.strCells s = bcells s.data.toList := rfl

/-- A string appended to a Writer's row, and the new slice stored. -/
theorem wr_text {w w1 : World} {b : Nat} {ao ao' : Option Addr} {c c' : Nat} {bs : List UInt8} (s : ByteArray)
    (hblk : w.heap[b]? = some (.cells #[.bool true, .slice ao bs.length c] 150 (0, 0))) (hown0 : Owns w (.slice ao bs.length c) bs)
    (hown : w1.ownsRow 0 5 1 (.slice ao' (bs.length + s.size) c') (bs.length + s.size) (bcells bs ++ Lib.strCells s)) (hgrow : w.grownBy w1 (Value.ownBlock (.slice ao bs.length c)))
    (hat : ∀ k, (Value.slice ao' (bs.length + s.size) c').ownBlock = some k → Value.ownBlock (.slice ao bs.length c) = some k ∨ w.heap.size ≤ k) :
    ∃ g', WrAt (w1.setCell ⟨b, 1, none⟩ (.slice ao' (bs.length + s.size) c')) b g' (bs ++ s.data.toList) ∧ WrStep b (ao.map (·.block)) g' w (w1.setCell ⟨b, 1, none⟩ (.slice ao' (bs.length + s.size) c')) := by
  have hl : s.data.toList.length = s.size := Array.length_toList
  refine wr_pushed (ns := s.data.toList) hblk hown0 (Fr.refl _ w) ?_ hgrow hat
  rw [strCells_eq] at hown
  rw [hl]; exact hown

/-- 'string(b)' of a row that is owned. -/
theorem owns_string {P : Program} {w : World} {v : Value} {bs : List UInt8} (h : Owns w v bs) (src dst : TypeId) (hs : P.underlying src = some (.slice 5)) (he : P.underlying 5 = some (.int .u8)) (hd : P.underlying dst = some .string) :
    (convert src dst v).run P w = .ok (.string ⟨bs.toArray⟩) w := by
  rcases h.2 with ⟨hv, h0⟩ | ⟨g, cap, cur, hv, _, hg, hnc, hcm, hcs, htake⟩
  · have : bs = [] := List.eq_nil_of_length_eq_zero h0
    subst this; subst hv
    rw [run_convert_bytes_string w src dst 5 none 0 0 hs he hd]
    simp [Conv.bytesToString]
    rfl
  · subst hv
    refine run_convert_bytes_back w src dst 5 ⟨g, 0, none⟩ cap bs hs he hd ?_
    intro j hj
    refine h.cells (g := g) rfl j _ ?_
    simp [bcells, hj]


set_option maxRecDepth 100000 in
theorem Room_calls {p q : Int} (hp : p = 1024 ∨ p = 2048 ∨ p = 4096 ∨ p = 8192) (w : World) : Calls Tryz.prog 67 #[frameV p q] w fun e w' => e = .returned (.int .i64 (p - 32)) ∧ Same w w' := by
  have sx : ∀ o : Obj, Same w (w.alloc o) := fun o => (Fr.refl _ w).alloc _
  rcases hp with rfl | rfl | rfl | rfl
  all_goals
    go_enter Tryz.func67, Tryz.ntmps67
    go_wp2
    go_ret
    exact ⟨rfl, sx _⟩


theorem there_calls {w : World} {b : Nat} {v : Bool} (h0 : w.cell? ⟨b, 0, none⟩ = some (.bool v)) :
    Calls Tryz.prog 125 #[.pointer (some ⟨b, 0, none⟩)] w fun e w' => e = .returned (.bool v) ∧ w = w' := by
  go_enter Tryz.func125, Tryz.ntmps125
  go_wp2
  go_ret
  exact ⟨rfl, rfl⟩
def freeF : Nat → Nat → List UInt8
  | 0, n => [UInt8.ofNat n]
  | k + 1, n => if n < 128 then [UInt8.ofNat n] else UInt8.ofNat (n % 128 + 128) :: freeF k (n / 128)
def freeB (n : Nat) : List UInt8 := freeF 9 n

theorem and127 (m : Nat) (h : m < 18446744073709551616) : bits .and .u64 (m : Int) 127 = (m : Int) % 128 := by
  have := u64_and_nat m 127 h (by decide)
  rw [show ((127 : Nat) : Int) = 127 from rfl] at this
  rw [this, show (127 : Nat) = 2 ^ 7 - 1 from rfl, Nat.and_two_pow_sub_one_eq_mod]
  omega
theorem Tryz.info5 : (Tryz.prog.info? 5).map (fun i => (i.zero, i.size, i.bytes)) = some (some (.int .u8 0), 1, 1) := by kernel_rfl

set_option maxRecDepth 100000 in
set_option maxHeartbeats 400000 in
theorem wfree_calls {w : World} {b : Nat} {g : Option Nat} {bs : List UInt8} (n : Nat) (hn : n < 18446744073709551616) (h : WrAt w b g bs) (hl : bs.length ≤ 1000000000000) :
    Calls Tryz.prog 127 #[.pointer (some ⟨b, 0, none⟩), .int .u64 n] w fun e w' => e = .returned (.tuple #[]) ∧ ∃ g', WrAt w' b g' (bs ++ freeB n) ∧ WrStep b g g' w w' := by
  obtain ⟨ao, c, hblk, hown, hg⟩ := id h
  obtain ⟨c0, c1, f0, f1⟩ := cell_of_two hblk
  obtain ⟨i0, hi, hz0, hz1, hz2⟩ := info_parts Tryz.info5
  go_enter Tryz.func127, Tryz.ntmps127
  go_wp2_with (go_at_call 125; refine (there_calls c0).mono ?_; rintro e w' ⟨rfl, rfl⟩)
  go_loopw [1] (fun n1 wr => ∃ (k m : Nat) (cur : List UInt8) (g1 : Option Nat), n1 = .int .u64 m ∧ m < 2 * 128 ^ k ∧ cur.length + k = bs.length + 9 ∧ k ≤ 9 ∧ WrAt wr b g1 cur ∧ Hid (cur ++ freeF k m = bs ++ freeB n) ∧ WrStep b g g1 w wr)
    (fun n1 _ => (intOf n1).toNat)
  case atStart => exact ⟨9, n, bs, g, rfl, by omega, rfl, by omega, h, rfl, WrStep.refl _ _ _⟩
  case round =>
    obtain ⟨k, m, cur, g1, rfl, hm, hk, hk9, hwr, hd, hst⟩ := hrel
    obtain ⟨ao1, c1', hblk1, hown1, hg1⟩ := id hwr
    obtain ⟨d0, d1, e0, e1⟩ := cell_of_two hblk1
    have hm64 : m < 18446744073709551616 := by
      have : 128 ^ k ≤ 128 ^ 9 := Nat.pow_le_pow_right (by decide) hk9
      omega
    have hand : bits .and .u64 (m : Int) 127 = (m : Int) % 128 := and127 m hm64
    by_cases h128 : 127 < m
    · go_wp2_with (at_builtin; go_must (refine wpList_append_lies _ (by rfl) _ _ _ (by rfl) 0 5 i0 (.int .u8 0) 1 1 Tryz.underlying112 hi hz0 hz1 hz2 rfl (by decide) _ _ _ (by rfl) (hown1.alloc _) ⟨wr.heap.size, 0, none⟩ 1 1 _ (by rfl) ?_ (World.news_of_block (heap_alloc_new wr _)) ?_ (by decide) ?_ ?_ (Nat.zero_le _) (wr.heap.size + 1) (by simp) ?_))
      · exact rfl
      · unfold maxLen; omega
      · omega
      · intro g2 cap w1 hown2 hgrow hat _
        obtain ⟨q0, q1, q2, q3⟩ := wr_cells hblk1 hown1 ((Fr.refl _ wr).alloc _) hgrow
        obtain ⟨g', R1, R2⟩ := wr_push (UInt8.ofNat (m % 128 + 128)) (by simp; omega) ((Fr.refl _ wr).alloc _) hblk1 hown1 hown2 hgrow hat
        subst hg1
        clear hown2 hgrow hat d0 d1 e0 e1
        obtain ⟨k, rfl⟩ : ∃ k', k = k' + 1 := ⟨k - 1, by rcases k with _ | k <;> simp at hm ⊢; omega⟩
        go_wp2
        go_roundw
        case rel => exact ⟨k, m / 128, cur ++ [UInt8.ofNat (m % 128 + 128)], g', by go_num, by rw [Nat.pow_succ] at hm; omega, by simp; omega, by omega, R1, by show _ = _; rw [← hd.out, freeF, if_neg (by omega)]; simp, hst.trans R2⟩
        case measure => simp [intOf]; omega
    · go_wp2_with (at_builtin; go_must (refine wpList_append_lies _ (by rfl) _ _ _ (by rfl) 0 5 i0 (.int .u8 0) 1 1 Tryz.underlying112 hi hz0 hz1 hz2 rfl (by decide) _ _ _ (by rfl) (hown1.alloc _) ⟨wr.heap.size, 0, none⟩ 1 1 _ (by rfl) ?_ (World.news_of_block (heap_alloc_new wr _)) ?_ (by decide) ?_ ?_ (Nat.zero_le _) (wr.heap.size + 1) (by simp) ?_))
      · exact rfl
      · unfold maxLen; omega
      · omega
      · intro g2 cap w1 hown2 hgrow hat _
        obtain ⟨q0, q1, q2, q3⟩ := wr_cells hblk1 hown1 ((Fr.refl _ wr).alloc _) hgrow
        obtain ⟨g', R1, R2⟩ := wr_push (UInt8.ofNat m) (by simp; omega) ((Fr.refl _ wr).alloc _) hblk1 hown1 hown2 hgrow hat
        subst hg1
        clear hown2 hgrow hat d0 d1 e0 e1
        go_wp2
        go_end0
        refine ⟨rfl, g', ?_, hst.trans R2⟩
        have e : bs ++ freeB n = cur ++ [UInt8.ofNat m] := by
          rw [← hd.out]; cases k <;> simp [freeF]; omega
        rw [e]; exact R1
set_option maxRecDepth 100000 in
set_option maxHeartbeats 400000 in
theorem wstring_calls {w : World} {b : Nat} {g : Option Nat} {bs : List UInt8} (h : WrAt w b g bs) :
    Calls Tryz.prog 116 #[.pointer (some ⟨b, 0, none⟩)] w fun e w' => e = .returned (.string ⟨bs.toArray⟩) ∧ w = w' := by
  obtain ⟨ao, c, hblk, hown, hg⟩ := id h
  obtain ⟨c0, c1, f0, f1⟩ := cell_of_two hblk
  have hcv := owns_string (P := Tryz.prog) hown 112 9 Tryz.underlying112 Tryz.underlying5 Tryz.underlying9
  go_enter Tryz.func116, Tryz.ntmps116
  go_wp2_with (go_at_call 125; refine (there_calls c0).mono ?_; rintro e w' ⟨rfl, rfl⟩)
  go_ret
  exact ⟨rfl, rfl⟩

set_option maxRecDepth 100000 in
set_option maxHeartbeats 400000 in
theorem wraw_some {w : World} {b : Nat} {g : Option Nat} {bs : List UInt8} (ss : List ByteArray) (ab aoff c : Nat) (hc : ∀ i s, ss[i]? = some s → w.cell? ⟨ab, aoff + i, none⟩ = some (.string s)) (hab : ab < w.heap.size) (hb : ab ≠ b) (hbg : some ab ≠ g)
    (hss : ss.length ≤ 1000000000000000) (h : WrAt w b g bs) (hl : bs.length + (flat ss).length ≤ 1000000000000) :
    Calls Tryz.prog 128 #[.pointer (some ⟨b, 0, none⟩), .slice (some ⟨ab, aoff, none⟩) ss.length c] w fun e w' => e = .returned (.tuple #[]) ∧ ∃ g', WrAt w' b g' (bs ++ flat ss) ∧ WrStep b g g' w w' := by
  obtain ⟨ao, c, hblk, hown, hg⟩ := id h
  obtain ⟨c0, c1, f0, f1⟩ := cell_of_two hblk
  obtain ⟨i0, hi, hz0, hz1, hz2⟩ := info_parts Tryz.info5
  have HC : Hid (∀ i s, ss[i]? = some s → w.cell? ⟨ab, aoff + i, none⟩ = some (.string s)) := hc
  clear hc
  go_enter Tryz.func128, Tryz.ntmps128
  go_wp2_with (go_at_call 125; refine (there_calls c0).mono ?_; rintro e w' ⟨rfl, rfl⟩)
  go_loopw [11] (fun iv wr => ∃ (k : Nat) (cur : List UInt8) (g1 : Option Nat), iv = .int .i64 k ∧ k ≤ ss.length ∧ WrAt wr b g1 cur ∧ Hid (cur = bs ++ flat (ss.take k)) ∧ WrStep b g g1 w wr)
    (fun iv _ => ss.length - (intOf iv).toNat)
  case atStart => exact ⟨0, bs, g, rfl, by omega, h, by show _ = _; simp [flat], WrStep.refl _ _ _⟩
  case round =>
    obtain ⟨k, cur, g1, rfl, hk, hwr, hd, hst⟩ := hrel
    by_cases hlt : k < ss.length
    · obtain ⟨ao1, c1', hblk1, hown1, hg1⟩ := id hwr
      obtain ⟨d0, d1, e0, e1⟩ := cell_of_two hblk1
      have hlen : cur.length + ss[k].size ≤ 1000000000000 := by
        have h1 := flat_take_succ ss k hlt
        have h2 := flat_take_le ss (k + 1)
        rw [h1, List.length_append, bytes_length] at h2
        rw [hd.out, List.length_append]; omega
      have hcx : wr.cell? ⟨ab, aoff + k, none⟩ = some (.string ss[k]) := by
        rw [hst.1.cell (p := ⟨ab, aoff + k, none⟩) hab (by rintro (e | e); exact hb e; exact hbg e)]
        exact HC.out k _ (List.getElem?_eq_getElem hlt)
      obtain ⟨s, hs⟩ : ∃ s, s = ss[k] := ⟨_, rfl⟩
      have HS : Hid (s = ss[k]) := hs
      rw [← hs] at hlen hcx
      clear hs
      go_wp2_with (at_builtin; go_must (refine wpList_append_str _ (by rfl) _ _ _ _ (by rfl) 5 i0 Tryz.underlying112 Tryz.underlying9 hi hz0 hz1 hz2 _ _ _ (by rfl) hown1 s (by rfl) ?_ ?_))
      · omega
      · intro ao2 cap w1 hown2 hgrow hat
        obtain ⟨q0, q1, q2, q3⟩ := wr_cells hblk1 hown1 (Fr.refl _ wr) hgrow
        obtain ⟨g', R1, R2⟩ := wr_text s hblk1 hown1 hown2 hgrow hat
        subst hg1
        clear hown2 hgrow hat d0 d1 e0 e1 hcx
        go_wp2
        go_roundw
        case rel => exact ⟨k + 1, cur ++ s.data.toList, g', by go_num, by omega, R1, by show _ = _; rw [flat_take_succ ss k hlt, hd.out, HS.out, List.append_assoc], hst.trans R2⟩
        case measure => simp [intOf]; omega
    · go_wp2
      go_end0
      have hke : k = ss.length := by omega
      subst hke
      refine ⟨rfl, g1, ?_, hst⟩
      have e := hd.out
      rw [List.take_length] at e
      rw [← e]; exact hwr


def textB (s : ByteArray) : List UInt8 := freeB s.size ++ s.data.toList

theorem freeF_length (k n : Nat) : (freeF k n).length ≤ k + 1 := by
  induction k generalizing n with
  | zero => simp [freeF]
  | succ k ih => rw [freeF]; split
                 · simp
                 · have := ih (n / 128); simp; omega
theorem freeB_length (n : Nat) : (freeB n).length ≤ 10 := freeF_length 9 n

set_option maxRecDepth 100000 in
set_option maxHeartbeats 400000 in
theorem wtext_calls {w : World} {b : Nat} {g : Option Nat} {bs : List UInt8} (s : ByteArray) (h : WrAt w b g bs) (hl : bs.length + s.size ≤ 999999999000) :
    Calls Tryz.prog 119 #[.pointer (some ⟨b, 0, none⟩), .string s] w fun e w' => e = .returned (.tuple #[]) ∧ ∃ g', WrAt w' b g' (bs ++ textB s) ∧ WrStep b g g' w w' := by
  have hfl := freeB_length s.size
  have hbw : b < w.heap.size := by obtain ⟨ao, c, hblk, _⟩ := h; exact lt_of_heap hblk
  go_enter Tryz.func119, Tryz.ntmps119
  go_wp2_with fail
  refine (wfree_calls s.size (by omega) h (by omega)).mono ?_
  rintro e w1 ⟨rfl, g1, h1, st1⟩
  go_wp2_with fail
  have hne : w1.heap.size ≠ b := by have := st1.1.size; omega
  have h1' : WrAt (w1.alloc (.cells #[.string s] 9)) b g1 (bs ++ freeB s.size) := by
    obtain ⟨ao, c, hblk, hown, hg⟩ := h1
    exact ⟨ao, c, by rw [Below.heap_alloc _ _ _ (lt_of_heap hblk)]; exact hblk, hown.alloc _, hg⟩
  have hg1 : some w1.heap.size ≠ g1 := by
    obtain ⟨ao, c, hblk, hown, hg⟩ := h1
    intro e; rw [hg] at e
    have := own_lt hown (k := w1.heap.size) (by cases ao <;> simp_all [Value.ownBlock])
    omega
  refine (wraw_some [s] w1.heap.size 0 1 ?_ (by simp) hne hg1 (by simp) h1' (by simp [flat]; omega)).mono ?_
  · intro i s' hi
    match i, hi with
    | 0, hi => simp at hi; subst hi; simp
    | (i + 1), hi => simp at hi
  rintro e w2 ⟨rfl, g2, h2, st2⟩
  go_wp2_with fail
  go_end0
  refine ⟨rfl, g2, ?_, ?_⟩
  · simpa [textB, flat] using h2
  · refine st1.trans ?_
    refine ⟨?_, ?_⟩
    · exact ((Fr.refl _ w1).alloc _).trans st2.1 (fun i _ t => t)
    · intro k hk; rcases st2.2 k hk with h' | h'
      · exact Or.inl h'
      · right; simp at h'; omega

set_option maxRecDepth 100000 in
set_option maxHeartbeats 4000000 in
theorem size_u8 (w : World) : Calls Tryz.prog 126 #[] w fun e w' => e = .returned (.int .i64 1) ∧ w = w' := by
  skip
  go_enter Tryz.func126, Tryz.ntmps126
  go_wp2
  go_rounds 9
  go_ret
  exact ⟨rfl, rfl⟩
set_option maxRecDepth 100000 in
set_option maxHeartbeats 4000000 in
theorem size_u32 (w : World) : Calls Tryz.prog 131 #[] w fun e w' => e = .returned (.int .i64 4) ∧ w = w' := by
  skip
  go_enter Tryz.func131, Tryz.ntmps131
  go_wp2
  go_rounds 33
  go_ret
  exact ⟨rfl, rfl⟩

def fixB : Nat → Int → List UInt8
  | 0, _ => []
  | n + 1, x => UInt8.ofNat ((x / 256 ^ n) % 256).toNat :: fixB n x
theorem fixB_length (n : Nat) (x : Int) : (fixB n x).length = n := by induction n <;> simp [fixB, *]

theorem shr_fix (kd : IntKind) (x : Int) (k : Nat) (h : 8 * k ≤ kd.bits) : Op.shift .shr kd x .i64 (IntKind.i64.wrap (8 * (k : Int))) = pure (.int kd (x / 256 ^ k)) := by
  have hk : kd.bits ≤ 64 := by cases kd <;> simp [IntKind.bits]
  have e : IntKind.i64.wrap (8 * (k : Int)) = ((8 * k : Nat) : Int) := by rw [IntKind.wrap_i64]; omega
  rw [e, shift_shr kd .i64 x _ (by omega) (by omega)]
  rw [Int.toNat_natCast, show (2 : Int) ^ (8 * k) = 256 ^ k from by rw [Int.pow_mul]; rfl]

theorem u8_of (y : Int) : IntKind.u8.wrap y = ((UInt8.ofNat (y % 256).toNat).toNat : Int) := by
  rw [IntKind.wrap_u8]; simp; omega

theorem u8_same {x y : Int} {k : Nat} (h0 : 0 ≤ x) (h1 : x ≤ 255) (h : y = x / 256 ^ k) : y = ((UInt8.ofNat (y % 256).toNat).toNat : Int) := by
  have a : 0 ≤ y := by rw [h]; exact Int.ediv_nonneg h0 (Int.pow_nonneg (by decide))
  have b : y ≤ x := by rw [h]; exact Int.ediv_le_self _ h0
  simp; omega

attribute [local go_sem ↓] Go.wp_at_zero Go.wp_at_succ
set_option maxRecDepth 100000 in
set_option maxHeartbeats 400000 in
theorem put_u8 {w : World} {b : Nat} {g : Option Nat} {bs : List UInt8} (x : Int) (hx0 : 0 ≤ x) (hx1 : x ≤ 255) (h : WrAt w b g bs) (hl : bs.length ≤ 1000000000000) :
    Calls Tryz.prog 113 #[.pointer (some ⟨b, 0, none⟩), .int .u8 x] w fun e w' => e = .returned (.tuple #[]) ∧ ∃ g', WrAt w' b g' (bs ++ fixB 1 x) ∧ WrStep b g g' w w' := by
  obtain ⟨ao, c, hblk, hown, hg⟩ := id h
  obtain ⟨c0, c1, f0, f1⟩ := cell_of_two hblk
  obtain ⟨i0, hi, hz0, hz1, hz2⟩ := info_parts Tryz.info5
  go_enter Tryz.func113, Tryz.ntmps113
  go_wp2_with (first | (go_at_call 125; refine (there_calls c0).mono ?_; rintro e w' ⟨rfl, rfl⟩) | (go_at_call 126; refine (size_u8 _).mono ?_; rintro e w' ⟨rfl, rfl⟩))
  go_loopw [4] (fun iv wr => ∃ (k : Nat) (cur : List UInt8) (g1 : Option Nat), iv = .int .i64 ((k : Int) - 1) ∧ k ≤ 1 ∧ cur.length + k = bs.length + 1 ∧ WrAt wr b g1 cur ∧ Hid (cur ++ fixB k x = bs ++ fixB 1 x) ∧ WrStep b g g1 w wr)
    (fun iv _ => (intOf iv + 1).toNat)
  case atStart => exact ⟨1, bs, g, rfl, by omega, rfl, h, rfl, WrStep.refl _ _ _⟩
  case round =>
    obtain ⟨k, cur, g1, rfl, hk, hcl, hwr, hd, hst⟩ := hrel
    obtain ⟨ao1, c1', hblk1, hown1, hg1⟩ := id hwr
    obtain ⟨d0, d1, e0, e1⟩ := cell_of_two hblk1
    by_cases hpos : 0 < k
    · obtain ⟨k, rfl⟩ : ∃ k', k = k' + 1 := ⟨k - 1, by omega⟩
      have hlt := lt_of_heap hblk1
      have hnn : wr.heap.size ≠ b := by omega
      obtain ⟨y, hy, hsh⟩ : ∃ y, y = x / 256 ^ k ∧ Op.shift .shr .u8 x .i64 (IntKind.i64.wrap (8 * (k : Int))) = pure (.int .u8 y) := ⟨_, rfl, shr_fix .u8 x k (by simp [IntKind.bits]; omega)⟩
      have HY : Hid (y = x / 256 ^ k) := hy
      clear hy
      go_wp2_with fail
      go_region_law ((refine step_append_lies _ (by rfl) _ _ _ (by rfl) 0 5 i0 (.int .u8 0) 1 1 Tryz.underlying112 hi hz0 hz1 hz2 rfl (by decide) _ _ _ (by rfl) ((hown1.alloc _).drew) ⟨wr.heap.size, 0, none⟩ 1 1 _ (by rfl) (by rfl) (World.news_of_block (heap_alloc_new wr _)) (by simp [Value.oneCell']) (by decide) (by unfold maxLen; omega) (by omega) (Nat.zero_le _) (wr.heap.size + 1) (by simp) ?_; intro g2 cap w1 hown2 hgrow hat hlt; obtain ⟨q0, q1, q2, q3⟩ := wr_cells hblk1 hown1 (((Fr.refl _ wr).alloc _).drew) hgrow))
      all_goals
        obtain ⟨g', R1, R2⟩ := wr_push (UInt8.ofNat (y % 256).toNat) (u8_same hx0 hx1 HY.out) (((Fr.refl _ wr).alloc _).drew) hblk1 hown1 hown2 hgrow hat
        subst hg1
        clear hown2 hgrow hat d0 d1 e0 e1
        go_wp2
        go_roundw
        case rel => exact ⟨k, cur ++ [UInt8.ofNat (y % 256).toNat], g', by go_num, by omega, by simp; omega, R1, by show _ = _; rw [← hd.out, HY.out, fixB]; simp, hst.trans R2⟩
        case measure => simp [intOf]
    · have hk0 : k = 0 := by omega
      subst hk0
      go_wp2
      go_end0
      refine ⟨rfl, g1, ?_, hst⟩
      have e := hd.out
      simp only [fixB, List.append_nil] at e
      simp only [fixB]
      rw [← e]; exact hwr
set_option maxRecDepth 100000 in
set_option maxHeartbeats 400000 in
theorem put_u32 {w : World} {b : Nat} {g : Option Nat} {bs : List UInt8} (x : Int) (h : WrAt w b g bs) (hl : bs.length ≤ 1000000000000) :
    Calls Tryz.prog 121 #[.pointer (some ⟨b, 0, none⟩), .int .u32 x] w fun e w' => e = .returned (.tuple #[]) ∧ ∃ g', WrAt w' b g' (bs ++ fixB 4 x) ∧ WrStep b g g' w w' := by
  obtain ⟨ao, c, hblk, hown, hg⟩ := id h
  obtain ⟨c0, c1, f0, f1⟩ := cell_of_two hblk
  obtain ⟨i0, hi, hz0, hz1, hz2⟩ := info_parts Tryz.info5
  go_enter Tryz.func121, Tryz.ntmps121
  go_wp2_with (first | (go_at_call 125; refine (there_calls c0).mono ?_; rintro e w' ⟨rfl, rfl⟩) | (go_at_call 131; refine (size_u32 _).mono ?_; rintro e w' ⟨rfl, rfl⟩))
  go_loopw [4] (fun iv wr => ∃ (k : Nat) (cur : List UInt8) (g1 : Option Nat), iv = .int .i64 ((k : Int) - 1) ∧ k ≤ 4 ∧ cur.length + k = bs.length + 4 ∧ WrAt wr b g1 cur ∧ Hid (cur ++ fixB k x = bs ++ fixB 4 x) ∧ WrStep b g g1 w wr)
    (fun iv _ => (intOf iv + 1).toNat)
  case atStart => exact ⟨4, bs, g, rfl, by omega, rfl, h, rfl, WrStep.refl _ _ _⟩
  case round =>
    obtain ⟨k, cur, g1, rfl, hk, hcl, hwr, hd, hst⟩ := hrel
    obtain ⟨ao1, c1', hblk1, hown1, hg1⟩ := id hwr
    obtain ⟨d0, d1, e0, e1⟩ := cell_of_two hblk1
    by_cases hpos : 0 < k
    · obtain ⟨k, rfl⟩ : ∃ k', k = k' + 1 := ⟨k - 1, by omega⟩
      have hlt := lt_of_heap hblk1
      have hnn : wr.heap.size ≠ b := by omega
      obtain ⟨y, hy, hsh⟩ : ∃ y, y = x / 256 ^ k ∧ Op.shift .shr .u32 x .i64 (IntKind.i64.wrap (8 * (k : Int))) = pure (.int .u32 y) := ⟨_, rfl, shr_fix .u32 x k (by simp [IntKind.bits]; omega)⟩
      have HY : Hid (y = x / 256 ^ k) := hy
      clear hy
      go_wp2_with fail
      go_region_law ((refine step_append_lies _ (by rfl) _ _ _ (by rfl) 0 5 i0 (.int .u8 0) 1 1 Tryz.underlying112 hi hz0 hz1 hz2 rfl (by decide) _ _ _ (by rfl) ((hown1.alloc _).drew) ⟨wr.heap.size, 0, none⟩ 1 1 _ (by rfl) (by rfl) (World.news_of_block (heap_alloc_new wr _)) (by simp [Value.oneCell']) (by decide) (by unfold maxLen; omega) (by omega) (Nat.zero_le _) (wr.heap.size + 1) (by simp) ?_; intro g2 cap w1 hown2 hgrow hat hlt; obtain ⟨q0, q1, q2, q3⟩ := wr_cells hblk1 hown1 (((Fr.refl _ wr).alloc _).drew) hgrow))
      all_goals
        obtain ⟨g', R1, R2⟩ := wr_push (UInt8.ofNat (y % 256).toNat) (u8_of y) (((Fr.refl _ wr).alloc _).drew) hblk1 hown1 hown2 hgrow hat
        subst hg1
        clear hown2 hgrow hat d0 d1 e0 e1
        go_wp2
        go_roundw
        case rel => exact ⟨k, cur ++ [UInt8.ofNat (y % 256).toNat], g', by go_num, by omega, by simp; omega, R1, by show _ = _; rw [← hd.out, HY.out, fixB]; simp, hst.trans R2⟩
        case measure => simp [intOf]
    · have hk0 : k = 0 := by omega
      subst hk0
      go_wp2
      go_end0
      refine ⟨rfl, g1, ?_, hst⟩
      have e := hd.out
      simp only [fixB, List.append_nil] at e
      simp only [fixB]
      rw [← e]; exact hwr

-- wants 150
theorem WrAt.same {w w' : World} {b : Nat} {g : Option Nat} {bs : List UInt8} (h : WrAt w b g bs) (k : Fr (fun _ => False) w w') : WrAt w' b g bs := by
  obtain ⟨ao, c, hblk, hown, hg⟩ := h
  exact ⟨ao, c, by rw [k.block b (lt_of_heap hblk) (fun f => f)]; exact hblk, own_frame hown k (fun _ _ f => f), hg⟩
-- wants 150
theorem WrAt.lt {w : World} {b : Nat} {g : Option Nat} {bs : List UInt8} (h : WrAt w b g bs) : b < w.heap.size ∧ (∀ i, g = some i → i < w.heap.size) := by
  obtain ⟨ao, c, hblk, hown, hgg⟩ := h
  refine ⟨lt_of_heap hblk, fun i hi => own_lt hown ?_⟩
  rw [← hi, hgg]; cases ao <;> rfl
theorem WrStep.same {b : Nat} {g g' : Option Nat} {w w1 w2 : World} (h : Fr (fun _ => False) w w1) (k : WrStep b g g' w1 w2) : WrStep b g g' w w2 :=
  ⟨Fr.trans (h.mono (fun _ _ f => f.elim)) k.1 (fun _ _ t => t), fun i hi => by rcases k.2 i hi with h' | h'; exact Or.inl h'; exact Or.inr (Nat.le_trans h.size h')⟩
theorem ret_int {k : IntKind} {a b : Int} (h : a = b) : Ending.returned (.int k a) = .returned (.int k b) := by rw [h]
theorem counted_calls (w : World) (n : Int) :
    Calls Tryz.prog 137 #[.int .i64 n] w fun e w' => e = .returned (.int .i64 (max n 0)) ∧ w = w' := by
  by_cases h : 0 ≤ n
  · go_enter Tryz.func137, Tryz.ntmps137
    go_wp2
    all_goals
      go_ret
      exact ⟨ret_int (by omega), rfl⟩
  · go_enter Tryz.func137, Tryz.ntmps137
    go_wp2
    all_goals
      go_ret
      exact ⟨ret_int (by omega), rfl⟩

/-- A width brought into 0 to 32. -/
def widthN (wd : Int) : Nat := (min (max wd 0) 32).toNat
theorem widthN_le (wd : Int) : widthN wd ≤ 32 := by unfold widthN; omega

theorem counting_calls (w : World) (n : Int) :
    Calls Tryz.prog 135 #[.int .i64 n] w fun e w' => e = .returned (.int .i64 (widthN n)) ∧ w = w' := by
  have hx : max n 0 = ((max n 0).toNat : Int) := by omega
  obtain ⟨m, hm⟩ : ∃ m : Nat, m = (max n 0).toNat := ⟨_, rfl⟩
  have HC : Hid (Calls Tryz.prog 137 #[.int .i64 n] w fun e w' => e = .returned (.int .i64 (m : Int)) ∧ w = w') := by
    have := counted_calls w n; rw [hx, ← hm] at this; exact this
  have HM : Hid (widthN n = min m 32) := by show _ = _; unfold widthN; omega
  clear hx hm
  by_cases h : m ≤ 32
  all_goals
    go_enter Tryz.func135, Tryz.ntmps135
    go_wp2_with fail
    refine HC.out.mono ?_
    rintro e w1 ⟨rfl, rfl⟩
    go_wp2_with fail
    all_goals
      go_ret
      exact ⟨ret_int (by rw [HM.out]; omega), rfl⟩

theorem Tryz.alen : Tryz.prog.arrayLen 59 = 32 := by kernel_rfl
theorem Tryz.aelem : Tryz.prog.elem 59 = 5 := by kernel_rfl
theorem Tryz.aund : Tryz.prog.underlying 59 = some (.array (Tryz.prog.arrayLen 59) (Tryz.prog.elem 59)) := by kernel_rfl
theorem Tryz.size8 (W : World) : (sizeOf 5).run Tryz.prog W = .ok 1 W := by kernel_rfl
theorem slice_digest (W : World) (g k : Nat) (hk : k ≤ 32) : (Instr.sliceAt 59 (.pointer (some ⟨g, 0, none⟩)) none (some (.int .i64 (k : Int))) none).run Tryz.prog W = .ok (.slice (some ⟨g, 0, none⟩) k 32) W := by
  rw [run_sliceAt_array_h W 59 ⟨g, 0, none⟩ Tryz.aund .i64 k (by omega) (by rw [Tryz.alen]; omega), Tryz.aelem, Tryz.size8, Tryz.alen]
  simp [slicedAt, Addr.add]

set_option maxRecDepth 100000 in
set_option maxHeartbeats 1000000 in
theorem wdigest_calls {w : World} {b : Nat} {g : Option Nat} {bs : List UInt8} (wd : Int) (D : List UInt8) (hD : D.length = 32) (h : WrAt w b g bs) (hl : bs.length ≤ 900000000000) :
    Calls Tryz.prog 132 #[.pointer (some ⟨b, 0, none⟩), .int .i64 wd, .agg (bcells D).toArray] w fun e w' => e = .returned (.tuple #[]) ∧ ∃ g', WrAt w' b g' (bs ++ D.take (widthN wd)) ∧ WrStep b g g' w w' := by
  have hk := widthN_le wd
  have HN : Hid (∀ W, Calls Tryz.prog 135 #[.int .i64 wd] W fun e w' => e = .returned (.int .i64 (widthN wd)) ∧ W = w') := fun W => counting_calls W wd
  obtain ⟨A, hA⟩ : ∃ A, A = (bcells D).toArray := ⟨_, rfl⟩
  rw [← hA]
  have sa : Fr (fun _ => False) w (w.alloc (.cells A 59)) := (Fr.refl _ w).alloc _
  have hcells : ∀ j (hj : j < (D.take (widthN wd)).length), (w.alloc (.cells A 59)).cell? ((⟨w.heap.size, 0, none⟩ : Addr).add j) = some (.int .u8 ((D.take (widthN wd))[j].toNat : Int)) := by
    intro j hj
    rw [Addr.add_lit, cell_of_row _ _ _ _ _ _ (heap_alloc_new w _), hA]
    have hj2 : j < D.length := by rw [List.length_take] at hj; omega
    simp [bcells, hj2]
  have hcv := run_convert_bytes_back (P := Tryz.prog) (w.alloc (.cells A 59)) 112 9 5 ⟨w.heap.size, 0, none⟩ 32 (D.take (widthN wd)) Tryz.underlying112 Tryz.underlying5 Tryz.underlying9 hcells
  rw [show (D.take (widthN wd)).length = widthN wd from by rw [List.length_take]; omega] at hcv
  clear hcells hA
  obtain ⟨k, hk2⟩ : ∃ k, k = widthN wd := ⟨_, rfl⟩
  rw [← hk2] at hk HN hcv ⊢
  clear hk2
  have hsl := fun W => slice_digest W w.heap.size k hk
  go_enter Tryz.func132, Tryz.ntmps132
  go_wp2_with fail
  refine (HN.out _).mono ?_
  rintro e w1 ⟨rfl, rfl⟩
  go_wp2_with fail
  have hw1 := h.same sa
  have hw2 := hw1.same (w' := (w.alloc (.cells A 59)).alloc (.cells #[.string ⟨(D.take k).toArray⟩] 9)) ((Fr.refl _ _).alloc _)
  have hlw := h.lt
  have s2 : Fr (fun _ => False) w ((w.alloc (.cells A 59)).alloc (.cells #[.string ⟨(D.take k).toArray⟩] 9)) := sa.alloc _
  have hfl : (flat [⟨(D.take k).toArray⟩]).length ≤ 32 := by simp [flat]; omega
  refine (wraw_some [⟨(D.take k).toArray⟩] (w.heap.size + 1) 0 1 ?_ (by simp) (by omega) (by intro e; have := hlw.2 _ e.symm; omega) (by simp) hw2 (by omega)).mono ?_
  · intro i s' hi
    match i, hi with
    | 0, hi => simp at hi; subst hi; simp
    | (i + 1), hi => simp at hi
  rintro e w3 ⟨rfl, g3, h3, st3⟩
  go_wp2_with fail
  go_end0
  refine ⟨rfl, g3, ?_, WrStep.same s2 st3⟩
  simpa [flat] using h3


-- wants 150
/-- A Writer at b that was made since w; its bytes are bs; what w had is as it was. -/
def WSt (w W : World) (b : Nat) (bs : List UInt8) : Prop := ∃ g, WrAt W b g bs ∧ w.heap.size ≤ b ∧ (∀ k, g = some k → w.heap.size ≤ k) ∧ Same w W
-- wants 150
theorem WSt.base {w W : World} {b : Nat} {bs : List UInt8} (h : WSt w W b bs) : Same w W := h.choose_spec.2.2.2
-- wants 150
theorem WSt.keep {w W W' : World} {b : Nat} {g g' : Option Nat} {bs : List UInt8} (hb : w.heap.size ≤ b) (hg : ∀ k, g = some k → w.heap.size ≤ k) (s : Same w W) (h' : WrAt W' b g' bs) (st : WrStep b g g' W W') : WSt w W' b bs := by
  refine ⟨g', h', hb, ?_, ?_⟩
  · intro k hk
    rcases st.2 k hk with e | e
    · exact hg k e
    · exact Nat.le_trans s.size e
  · refine Fr.trans s st.1 ?_
    rintro i hi (e | e)
    · omega
    · have := hg i e.symm; omega
-- wants 150
theorem WrAt.same1 {w w' : World} {b : Nat} {g : Option Nat} {bs : List UInt8} (h : WrAt w b g bs) (k : Same w w') : WrAt w' b g bs := by
  obtain ⟨ao, c, hb, ho, hg⟩ := h
  exact ⟨ao, c, by rw [k.block b (lt_of_heap hb) (fun f => f)]; exact hb, own_frame ho k (fun _ _ f => f), hg⟩
-- wants 150
theorem WSt.same {w W W' : World} {b : Nat} {bs : List UInt8} (h : WSt w W b bs) (s : Same W W') : WSt w W' b bs := by
  obtain ⟨g, h1, h2, h3, h4⟩ := h
  exact ⟨g, h1.same1 s, h2, h3, h4.trans s⟩
theorem wst_new (w : World) : WSt w (w.alloc (.cells #[.bool true, .slice none 0 0] 150)) w.heap.size [] :=
  ⟨none, ⟨none, 0, heap_alloc_new w _, World.ownsRow_nil _ _ _ _, rfl⟩, Nat.le_refl _, (by intro k h; cases h), (Fr.refl _ w).alloc _⟩
theorem wst_string {w W : World} {b : Nat} {bs : List UInt8} (h : WSt w W b bs) : Calls Tryz.prog 116 #[.pointer (some ⟨b, 0, none⟩)] W fun e w' => e = .returned (.string ⟨bs.toArray⟩) ∧ W = w' := by
  obtain ⟨g, h1, _⟩ := h
  exact wstring_calls h1
theorem wst_u8 {w W : World} {b : Nat} {bs : List UInt8} (x : Nat) (hx : x < 256 ^ 1) (h : WSt w W b bs) (hl : bs.length ≤ 1000000000000) :
    Calls Tryz.prog 113 #[.pointer (some ⟨b, 0, none⟩), .int .u8 x] W fun e w' => e = .returned (.tuple #[]) ∧ WSt w w' b (bs ++ fixB 1 x) := by
  obtain ⟨g, h1, h2, h3, h4⟩ := h
  have hx2 : x < 256 ^ 1 := hx
  refine (put_u8 (x : Int) (by omega) (by omega) h1 hl).mono fun e w' ⟨he, g', hw', st⟩ => ⟨he, ?_⟩
  exact WSt.keep h2 h3 h4 hw' st
theorem wst_u32 {w W : World} {b : Nat} {bs : List UInt8} (x : Nat) (hx : x < 256 ^ 4) (h : WSt w W b bs) (hl : bs.length ≤ 1000000000000) :
    Calls Tryz.prog 121 #[.pointer (some ⟨b, 0, none⟩), .int .u32 x] W fun e w' => e = .returned (.tuple #[]) ∧ WSt w w' b (bs ++ fixB 4 x) := by
  obtain ⟨g, h1, h2, h3, h4⟩ := h
  have hx2 : x < 256 ^ 4 := hx
  refine (put_u32 (x : Int)   h1 hl).mono fun e w' ⟨he, g', hw', st⟩ => ⟨he, ?_⟩
  exact WSt.keep h2 h3 h4 hw' st
theorem wst_there {w W : World} {b : Nat} {bs : List UInt8} (h : WSt w W b bs) : Calls Tryz.prog 125 #[.pointer (some ⟨b, 0, none⟩)] W fun e w' => e = .returned (.bool true) ∧ W = w' := by
  obtain ⟨g, ⟨ao, c, hblk, _, _⟩, _⟩ := h
  exact there_calls (cell_of_two hblk).1

def pairB (x : ByteArray × ByteArray) : List UInt8 := textB x.1 ++ textB x.2
def pairsB (ps : List (ByteArray × ByteArray)) : List UInt8 := ps.flatMap pairB
theorem pairsB_take_succ (ps : List (ByteArray × ByteArray)) (k : Nat) (x : ByteArray × ByteArray) (h : ps[k]? = some x) : pairsB (ps.take (k + 1)) = pairsB (ps.take k) ++ pairB x := by
  rw [List.take_add_one, h]
  simp [pairsB]
theorem pairsB_take_le (ps : List (ByteArray × ByteArray)) (k : Nat) : (pairsB (ps.take k)).length ≤ (pairsB ps).length := by
  have : pairsB ps = pairsB (ps.take k) ++ pairsB (ps.drop k) := by
    unfold pairsB
    rw [← List.flatMap_append, List.take_append_drop]
  rw [this, List.length_append]; omega
theorem textB_len (s : ByteArray) : s.size ≤ (textB s).length := by unfold textB; rw [List.length_append, bytes_length]; omega

-- wants 150
theorem WrAt.ltb {w : World} {b : Nat} {g : Option Nat} {bs : List UInt8} (h : WrAt w b g bs) : b < w.heap.size ∧ ∀ k, g = some k → k < w.heap.size := by
  obtain ⟨ao, c, hb, ho, rfl⟩ := h
  exact ⟨lt_of_heap hb, fun k hk => own_lt ho (by cases ao <;> simp_all [Value.ownBlock])⟩
theorem WrStep.alloc (b : Nat) (g : Option Nat) (w : World) (o : Obj) : WrStep b g g w (w.alloc o) := ⟨(Fr.refl _ w).alloc _, fun _ h => Or.inl h⟩
/-- A block that is neither the Writer's nor its bytes' is as it was. -/
theorem WrStep.keep {b : Nat} {g g' : Option Nat} {w w' : World} (st : WrStep b g g' w w') {k : Nat} {o : Obj} (hk : w.heap[k]? = some o) (h1 : k ≠ b) (h2 : some k ≠ g) : w'.heap[k]? = some o :=
  (st.1.block k (lt_of_heap hk) (by rintro (e | e); exact h1 e; exact h2 e)).trans hk
set_option maxRecDepth 100000 in
set_option maxHeartbeats 400000 in
theorem layPair_calls {w : World} {b : Nat} {g : Option Nat} {bs : List UInt8} (x : ByteArray × ByteArray) (h : WrAt w b g bs) (hl : bs.length + (pairB x).length ≤ 999999998000) :
    Calls Tryz.prog 115 #[.pointer (some ⟨b, 0, none⟩), .agg #[.string x.1, .string x.2]] w fun e w' => e = .returned (.tuple #[]) ∧ ∃ g', WrAt w' b g' (bs ++ pairB x) ∧ WrStep b g g' w w' := by
  obtain ⟨k, v⟩ := x
  unfold pairB at hl ⊢
  simp only at hl ⊢
  have l1 := textB_len k
  have l2 := textB_len v
  rw [List.length_append] at hl
  obtain ⟨lb, lg⟩ := h.ltb
  obtain ⟨V, hV⟩ : ∃ V, V = w.alloc (.cells #[.string k, .string v] 46) := ⟨_, rfl⟩
  have hv : WrAt V b g bs := by rw [hV]; exact h.same1 ((Fr.refl _ w).alloc _)
  have s0 : WrStep b g g w V := by rw [hV]; exact WrStep.alloc b g w _
  have r0 : V.heap[w.heap.size]? = some (.cells #[.string k, .string v] 46 (0, 0)) := by rw [hV]; exact heap_alloc_new w _
  have hne : w.heap.size ≠ b := by omega
  have hng : some w.heap.size ≠ g := by intro e; have := lg _ e.symm; omega
  have HT1 : Hid (Calls Tryz.prog 119 #[.pointer (some ⟨b, 0, none⟩), .string k] V fun e w' => e = .returned (.tuple #[]) ∧ ∃ g', WrAt w' b g' (bs ++ textB k) ∧ WrStep b g g' V w') := wtext_calls k hv (by omega)
  obtain ⟨c0, c1, _, _⟩ := cell_of_two r0
  have HL : Hid (bs.length + (textB k).length + (textB v).length ≤ 999999998000) := by show _ ≤ _; omega
  clear l1 hl h hv lb lg
  go_enter Tryz.func115, Tryz.ntmps115
  go_wp2_with fail
  rw [← hV]
  clear hV
  refine HT1.out.mono ?_
  rintro e w1 ⟨rfl, g1, h1, st1⟩
  have r1 := st1.keep r0 hne hng
  obtain ⟨c0, c1, _, _⟩ := cell_of_two r1
  have HT2 : Hid (Calls Tryz.prog 119 #[.pointer (some ⟨b, 0, none⟩), .string v] w1 fun e w' => e = .returned (.tuple #[]) ∧ ∃ g', WrAt w' b g' (bs ++ textB k ++ textB v) ∧ WrStep b g1 g' w1 w') := wtext_calls v h1 (by rw [List.length_append]; have := HL.out; omega)
  clear HT1 r0 r1 h1
  go_wp2_with fail
  refine HT2.out.mono ?_
  rintro e w2 ⟨rfl, g2, h2, st2⟩
  go_wp2_with fail
  go_end0
  exact ⟨rfl, g2, by rw [← List.append_assoc]; exact h2, (s0.trans st1).trans st2⟩

theorem eql_layPair (W : World) : (binOp .eql 140 (.func (.func 115) #[] #[]) .nilFunc).run Tryz.prog W = .ok (.bool false) W := by kernel_rfl
set_option maxRecDepth 100000 in
set_option maxHeartbeats 1000000 in
theorem eachPair_calls {w : World} {b : Nat} {g : Option Nat} {bs : List UInt8} (ps : List (ByteArray × ByteArray)) (pa : Option Addr) (pb po cp : Nat) (hr : PRow w pa pb po ps) (hb : ps ≠ [] → pb ≠ b) (hbg : ps ≠ [] → some pb ≠ g)
    (hss : ps.length ≤ 100000000000) (h : WrAt w b g bs) (hl : bs.length + (pairsB ps).length ≤ 900000000000) :
    Calls Tryz.prog 114 #[.pointer (some ⟨b, 0, none⟩), .slice pa ps.length cp, .func (.func 115) #[] #[]] w fun e w' => e = .returned (.tuple #[]) ∧ ∃ g', WrAt w' b g' (bs ++ (freeB ps.length ++ pairsB ps)) ∧ WrStep b g g' w w' := by
  obtain ⟨ao, c, hblk, hown, hg⟩ := id h
  obtain ⟨c0, c1, f0, f1⟩ := cell_of_two hblk
  have HR : Hid (PRow w pa pb po ps) := hr
  have HB : Hid (ps ≠ [] → pb ≠ b) := hb
  have HBG : Hid (ps ≠ [] → some pb ≠ g) := hbg
  have hef := eql_layPair
  obtain ⟨n, hn⟩ : ∃ n, n = ps.length := ⟨_, rfl⟩
  rw [← hn] at hss ⊢
  have HN : Hid (n = ps.length) := hn
  have HLL : Hid (bs.length + (pairsB ps).length ≤ 900000000000) := hl
  clear hr hn hb hbg
  go_enter Tryz.func114, Tryz.ntmps114
  go_wp2_with (go_at_call 125; refine (there_calls c0).mono ?_; rintro e w' ⟨rfl, rfl⟩)
  refine (wfree_calls n (by omega) h (by omega)).mono ?_
  rintro e w1 ⟨rfl, g1, h1, st1⟩
  have hfl := freeB_length n
  clear h hblk hown hg c0 c1 f0 f1 hl
  go_wp2_with fail
  go_loopg [20] n (fun gk iv wr => ∃ (k : Nat) (cur : List UInt8) (g2 : Option Nat), iv = .int .i64 (k : Int) ∧ k ≤ n ∧ gk = n - k ∧ Hid (WrAt wr b g2 cur) ∧ Hid (cur = bs ++ freeB n ++ pairsB (ps.take k)) ∧ Hid (WrStep b g g2 w wr))
  case atStart => exact ⟨0, bs ++ freeB n, g1, rfl, by omega, rfl, h1, by show _ = _; simp [pairsB], st1⟩
  case round =>
    obtain ⟨k, cur, g2, rfl, hk, hgk, HW, HCU, HST⟩ := hrel
    by_cases hgo : k < n
    · obtain ⟨x, hx⟩ : ∃ x, ps[k]? = some x := ⟨_, List.getElem?_eq_getElem (by rw [← HN.out]; exact hgo)⟩
      have hne : ps ≠ [] := by intro e; rw [e] at hx; simp at hx
      obtain ⟨hpa, hplt⟩ := HR.out.place hne
      have hsx := pairsB_take_succ ps k x hx
      have hlen : cur.length + (pairB x).length ≤ 999999997000 := by
        have h2 := pairsB_take_le ps (k + 1)
        rw [hsx, List.length_append] at h2
        have h3 := HLL.out
        rw [HCU.out, List.length_append, List.length_append]; omega
      have hcx := HR.out.cells k x hx
      have hfr : ∀ i, wr.cell? ⟨pb, i, none⟩ = w.cell? ⟨pb, i, none⟩ := fun i => HST.out.1.cell (p := ⟨pb, i, none⟩) hplt (by rintro (e | e); exact HB.out hne e; exact HBG.out hne e)
      have a0 := (hfr (po + k * 2)).trans hcx.1
      have a1 := (hfr (po + k * 2 + 1)).trans hcx.2
      subst hpa
      obtain ⟨V, hV⟩ : ∃ V, V = wr.alloc (.cells #[.string x.1, .string x.2] 46) := ⟨_, rfl⟩
      have hv : WrAt V b g2 cur := by rw [hV]; exact HW.out.same1 ((Fr.refl _ wr).alloc _)
      have s0 : WrStep b g2 g2 wr V := by rw [hV]; exact WrStep.alloc b g2 wr _
      have HLP : Hid (Calls Tryz.prog 115 #[.pointer (some ⟨b, 0, none⟩), .agg #[.string x.1, .string x.2]] V fun e w' => e = .returned (.tuple #[]) ∧ ∃ g', WrAt w' b g' (cur ++ pairB x) ∧ WrStep b g2 g' V w') := layPair_calls x hv (by omega)
      have HCU2 : Hid (cur ++ pairB x = bs ++ freeB n ++ pairsB (ps.take (k + 1))) := by
        show _ = _
        rw [hsx, HCU.out, List.append_assoc]
      have HS0 : Hid (WrStep b g g2 w V) := HST.out.trans s0
      clear hfr hcx hx hsx hlen hv s0 HCU HST HW hplt
      go_wp2_with fail
      rw [← hV]
      clear hV
      refine HLP.out.mono ?_
      rintro e w2 ⟨rfl, g3, h3, st3⟩
      have HW3 : Hid (WrAt w2 b g3 (cur ++ pairB x)) := h3
      have HS3 : Hid (WrStep b g g3 w w2) := HS0.out.trans st3
      clear h3 st3
      go_wp2_with fail
      go_roundg (n - (k + 1))
      case measure => omega
      case rel => exact ⟨k + 1, cur ++ pairB x, g3, by go_num, by omega, rfl, HW3, HCU2, HS3⟩
    · obtain rfl : k = n := by omega
      have HF : Hid (cur = bs ++ (freeB k ++ pairsB ps)) := by
        show _ = _
        rw [HCU.out, HN.out, List.take_length, List.append_assoc]
      clear HCU
      go_wp2_with fail
      go_end0
      refine ⟨rfl, g2, ?_, HST.out⟩
      rw [← HF.out]; exact HW.out


theorem Tryz.infoKid2 {k : Kid} (h : KidOk k) : (Tryz.prog.info? 61).map (·.size) = some (kcells k).toArray.size := by rw [Tryz.infoKid, List.size_toArray, kcells_length h.d]
/-- A kid's bytes: its digest cut to the width; ahead of it the page, if the form has pages. -/
def sumB (q : Int) (k : Kid) : List UInt8 := k.d.take (widthN q)
def kidB (pages : Bool) (q : Int) (k : Kid) : List UInt8 := (if pages = true then fixB 4 k.page else []) ++ sumB q k
set_option maxRecDepth 100000 in
set_option maxHeartbeats 400000 in
theorem laySum_calls {w : World} {b : Nat} {g : Option Nat} {bs : List UInt8} (q : Int) (k : Kid) (hk : KidOk k) (h : WrAt w b g bs) (hl : bs.length ≤ 900000000000) :
    Calls Tryz.prog 122 #[.int .i64 q, .pointer (some ⟨b, 0, none⟩), kidV k] w fun e w' => e = .returned (.tuple #[]) ∧ ∃ g', WrAt w' b g' (bs ++ sumB q k) ∧ WrStep b g g' w w' := by
  obtain ⟨V, hV⟩ : ∃ V, V = w.alloc (.cells (kcells k).toArray 61) := ⟨_, rfl⟩
  have hv : WrAt V b g bs := by rw [hV]; exact h.same1 ((Fr.refl _ w).alloc _)
  have s0 : WrStep b g g w V := by rw [hV]; exact WrStep.alloc b g w _
  have hS : V.rangeAt w.heap.size 1 (bcells k.d) := by rw [hV]; exact kid_sum (kid_box w k)
  have hDl : (Tryz.prog.info? 59).map (·.size) = some (bcells k.d).length := by rw [Tryz.infoDig, bcells_length, hk.d]
  have HD : Hid (Calls Tryz.prog 132 #[.pointer (some ⟨b, 0, none⟩), .int .i64 q, .agg (bcells k.d).toArray] V fun e w' => e = .returned (.tuple #[]) ∧ ∃ g', WrAt w' b g' (bs ++ sumB q k) ∧ WrStep b g g' V w') := wdigest_calls q k.d hk.d hv hl
  rw [hV] at hS
  generalize bcells k.d = BD at *
  unfold kidV
  generalize (kcells k).toArray = KA at *
  clear h hv hl hk
  go_enter Tryz.func122, Tryz.ntmps122
  go_wp2_with (refine wpList_load_mid (by rfl) 59 _ (by rfl) w.heap.size 1 (by rfl) BD _ hS Tryz.underlying59 rfl hDl ?_)
  rw [← hV]
  clear hV hS
  refine HD.out.mono ?_
  rintro e w1 ⟨rfl, g1, h1, st1⟩
  go_wp2_with fail
  go_end0
  exact ⟨rfl, g1, h1, s0.trans st1⟩

set_option maxRecDepth 100000 in
set_option maxHeartbeats 400000 in
theorem layKid_calls {w : World} {b : Nat} {g : Option Nat} {bs : List UInt8} (q : Int) (k : Kid) (hk : KidOk k) (h : WrAt w b g bs) (hl : bs.length ≤ 800000000000) :
    Calls Tryz.prog 110 #[.int .i64 q, .pointer (some ⟨b, 0, none⟩), kidV k] w fun e w' => e = .returned (.tuple #[]) ∧ ∃ g', WrAt w' b g' (bs ++ (fixB 4 k.page ++ sumB q k)) ∧ WrStep b g g' w w' := by
  obtain ⟨lb, lg⟩ := h.ltb
  obtain ⟨V, hV⟩ : ∃ V, V = w.alloc (.cells (kcells k).toArray 61) := ⟨_, rfl⟩
  have hv : WrAt V b g bs := by rw [hV]; exact h.same1 ((Fr.refl _ w).alloc _)
  have s0 : WrStep b g g w V := by rw [hV]; exact WrStep.alloc b g w _
  have r0 : V.heap[w.heap.size]? = some (.cells (kcells k).toArray 61 (0, 0)) := by rw [hV]; exact heap_alloc_new w _
  have c0 : V.cell? ⟨w.heap.size, 0, none⟩ = some (.int .u32 k.page) := by rw [hV]; exact kid_box w k 0 _ rfl
  have hne : w.heap.size ≠ b := by omega
  have hng : some w.heap.size ≠ g := by intro e; have := lg _ e.symm; omega
  have hz := Tryz.infoKid2 hk
  have HP : Hid (Calls Tryz.prog 121 #[.pointer (some ⟨b, 0, none⟩), .int .u32 k.page] V fun e w' => e = .returned (.tuple #[]) ∧ ∃ g', WrAt w' b g' (bs ++ fixB 4 k.page) ∧ WrStep b g g' V w') := put_u32 (k.page : Int) hv (by omega)
  have HS : Hid (∀ (W : World) (g1 : Option Nat), WrAt W b g1 (bs ++ fixB 4 k.page) → Calls Tryz.prog 122 #[.int .i64 q, .pointer (some ⟨b, 0, none⟩), kidV k] W fun e w' => e = .returned (.tuple #[]) ∧ ∃ g', WrAt w' b g' (bs ++ fixB 4 k.page ++ sumB q k) ∧ WrStep b g1 g' W w') := fun W g1 h1 => laySum_calls q k hk h1 (by rw [List.length_append, fixB_length]; omega)
  unfold kidV at HS ⊢
  rw [hV] at c0
  generalize (kcells k).toArray = KA at *
  clear h hv hl hk lb lg
  go_enter Tryz.func110, Tryz.ntmps110
  go_wp2_with fail
  rw [← hV]
  clear hV c0
  refine HP.out.mono ?_
  rintro e w1 ⟨rfl, g1, h1, st1⟩
  have r1 := st1.keep r0 hne hng
  go_wp2_with (refine wpList_load_row (by rfl) 61 _ (by rfl) w.heap.size (by rfl) 61 KA (0, 0) _ r1 Tryz.underlying61 rfl hz ?_)
  refine (HS.out _ _ h1).mono ?_
  rintro e w2 ⟨rfl, g2, h2, st2⟩
  go_wp2_with fail
  go_end0
  exact ⟨rfl, g2, by rw [← List.append_assoc]; exact h2, (s0.trans st1).trans st2⟩


-- wants 150
/-- A Writer at b, the box 'first' at fb, the box of the separators that are left at sb, all made since w. -/
structure KSt (w W : World) (b : Nat) (bs : List UInt8) (fb sb : Nat) (first : Bool) (sv : Value) : Prop where
  wr : ∃ g, WrAt W b g bs ∧ ∀ k, g = some k → w.heap.size ≤ k ∧ k ≠ fb ∧ k ≠ sb
  ne : w.heap.size ≤ b ∧ b ≠ fb ∧ b ≠ sb ∧ fb ≠ sb ∧ w.heap.size ≤ fb ∧ w.heap.size ≤ sb
  ff : W.heap[fb]? = some (.cells #[.bool first] 4 (0, 0))
  sf : W.heap[sb]? = some (.cells #[sv] 25 (0, 0))
  base : Same w W
-- wants 150
theorem KSt.step {w W : World} {b : Nat} {bs : List UInt8} {fb sb : Nat} {f : Bool} {sv : Value} (h : KSt w W b bs fb sb f sv) :
    ∃ g, WrAt W b g bs ∧ ∀ W' g' bs', WrAt W' b g' bs' → WrStep b g g' W W' → KSt w W' b bs' fb sb f sv := by
  obtain ⟨⟨g, hw, hg⟩, ⟨n1, n2, n3, n4, n5, n6⟩, h3, h4, h5⟩ := h
  have l1 := lt_of_heap h3
  have l2 := lt_of_heap h4
  refine ⟨g, hw, fun W' g' bs' hw' st => ⟨⟨g', hw', fun k hk => ?_⟩, ⟨n1, n2, n3, n4, n5, n6⟩, st.keep h3 (fun e => n2 e.symm) (fun e => (hg _ e.symm).2.1 rfl), st.keep h4 (fun e => n3 e.symm) (fun e => (hg _ e.symm).2.2 rfl), ?_⟩⟩
  · rcases st.2 k hk with e | e
    · exact hg k e
    · have := h5.size
      exact ⟨by omega, by omega, by omega⟩
  · refine Fr.trans h5 st.1 ?_
    rintro i hi (e | e)
    · omega
    · have := (hg i e.symm).1; omega
-- wants 150
theorem KSt.alloc {w W : World} {b : Nat} {bs : List UInt8} {fb sb : Nat} {f : Bool} {sv : Value} (h : KSt w W b bs fb sb f sv) (o : Obj) : KSt w (W.alloc o) b bs fb sb f sv := by
  obtain ⟨g, hw, hs⟩ := h.step
  exact hs _ g bs (hw.same1 ((Fr.refl _ W).alloc o)) (WrStep.alloc b g W o)
-- wants 150
theorem KSt.setF {w W : World} {b : Nat} {bs : List UInt8} {fb sb : Nat} {f : Bool} {sv : Value} (h : KSt w W b bs fb sb f sv) (x : Bool) : KSt w (W.setCell ⟨fb, 0, none⟩ (.bool x)) b bs fb sb x sv := by
  obtain ⟨⟨g, hw, hg⟩, ⟨n1, n2, n3, n4, n5, n6⟩, h3, h4, h5⟩ := h
  refine ⟨⟨g, ?_, hg⟩, ⟨n1, n2, n3, n4, n5, n6⟩, heap_setCell_same W fb 0 _ _ (.bool x) h3, (Below.heap_setCell _ ⟨fb, 0, none⟩ _ sb (by simp only; omega)).trans h4, h5.setCell (p := ⟨fb, 0, none⟩) (fun hh => by simp only at hh; omega) _⟩
  obtain ⟨ao, c, hb, ho, hgg⟩ := hw
  refine ⟨ao, c, (Below.heap_setCell _ ⟨fb, 0, none⟩ _ b (by simp only; omega)).trans hb, own_setCell ho ?_ _, hgg⟩
  intro e
  have : g = some fb := by rw [hgg]; cases ao <;> simp_all [Value.ownBlock]
  exact (hg fb this).2.1 rfl
-- wants 150
theorem KSt.setS {w W : World} {b : Nat} {bs : List UInt8} {fb sb : Nat} {f : Bool} {sv : Value} (h : KSt w W b bs fb sb f sv) (x : Value) : KSt w (W.setCell ⟨sb, 0, none⟩ x) b bs fb sb f x := by
  obtain ⟨⟨g, hw, hg⟩, ⟨n1, n2, n3, n4, n5, n6⟩, h3, h4, h5⟩ := h
  refine ⟨⟨g, ?_, hg⟩, ⟨n1, n2, n3, n4, n5, n6⟩, (Below.heap_setCell _ ⟨sb, 0, none⟩ _ fb (by simp only; omega)).trans h3, heap_setCell_same W sb 0 _ _ x h4, h5.setCell (p := ⟨sb, 0, none⟩) (fun hh => by simp only at hh; omega) _⟩
  obtain ⟨ao, c, hb, ho, hgg⟩ := hw
  refine ⟨ao, c, (Below.heap_setCell _ ⟨sb, 0, none⟩ _ b (by simp only; omega)).trans hb, own_setCell ho ?_ _, hgg⟩
  intro e
  have : g = some sb := by rw [hgg]; cases ao <;> simp_all [Value.ownBlock]
  exact (hg sb this).2.2 rfl
-- wants 150
theorem KSt.cells {w W : World} {b : Nat} {bs : List UInt8} {fb sb : Nat} {f : Bool} {sv : Value} (h : KSt w W b bs fb sb f sv) :
    W.cell? ⟨fb, 0, none⟩ = some (.bool f) ∧ W.frozen? ⟨fb, 0, none⟩ = false ∧ W.cell? ⟨sb, 0, none⟩ = some sv ∧ W.frozen? ⟨sb, 0, none⟩ = false :=
  ⟨by rw [cell_of_row _ _ _ _ _ _ h.ff]; rfl, frozen_of_row W fb 0 _ _ h.ff, by rw [cell_of_row _ _ _ _ _ _ h.sf]; rfl, frozen_of_row W sb 0 _ _ h.sf⟩

theorem lay_page {w W : World} {b : Nat} {bs : List UInt8} {fb sb : Nat} {f : Bool} {sv : Value} (q : Int) (k : Kid) (hk : KidOk k) (h : KSt w W b bs fb sb f sv) (hl : bs.length ≤ 800000000000) :
    Calls Tryz.prog 110 #[.int .i64 q, .pointer (some ⟨b, 0, none⟩), kidV k] W fun e w' => e = .returned (.tuple #[]) ∧ KSt w w' b (bs ++ kidB true q k) fb sb f sv := by
  obtain ⟨g, hw, hs⟩ := h.step
  exact (layKid_calls q k hk hw hl).mono fun e w' ⟨he, g', hw', st⟩ => ⟨he, hs _ g' _ (by unfold kidB; simpa using hw') st⟩
set_option maxRecDepth 100000 in
set_option maxHeartbeats 1000000 in
theorem kidFirst_page {w W : World} {b : Nat} {bs : List UInt8} {fb sb xb ab : Nat} {sv : Value} (q : Int) (k : Kid) (hk : KidOk k) (h : KSt w W b bs fb sb true sv) (hl : bs.length ≤ 700000000000)
    (hx : w.cell? ⟨xb, 0, none⟩ = some (.func (.func 110) #[] #[])) (ha : w.cell? ⟨ab, 1, none⟩ = some (.int .i64 q)) :
    Calls Tryz.prog 118 #[.pointer (some ⟨b, 0, none⟩), kidV k, .pointer (some ⟨fb, 0, none⟩), .pointer (some ⟨sb, 0, none⟩), .pointer (some ⟨xb, 0, none⟩), .pointer (some ⟨ab, 0, none⟩)] W fun e w' => e = .returned (.tuple #[]) ∧ KSt w w' b (bs ++ kidB true q k) fb sb false sv := by
  have h1 := h.alloc (.cells (kcells k).toArray 61)
  obtain ⟨c0, f0, c1, f1⟩ := h1.cells
  have h2 := (h.setF false).alloc (.cells (kcells k).toArray 61)
  have hX := h2.base.keep hx
  have hA := h2.base.keep ha
  have hz := Tryz.infoKid2 hk
  have hsz : (W.setCell ⟨fb, 0, none⟩ (.bool false)).heap.size = W.heap.size := by simp [World.setCell]
  have r1 : ((W.setCell ⟨fb, 0, none⟩ (.bool false)).alloc (.cells (kcells k).toArray 61)).heap[W.heap.size]? = some (.cells (kcells k).toArray 61 (0, 0)) := by
    have := heap_alloc_new (W.setCell ⟨fb, 0, none⟩ (.bool false)) (.cells (kcells k).toArray 61 (0, 0))
    rw [hsz] at this
    exact this
  have HL : Hid (Calls Tryz.prog 110 #[.int .i64 q, .pointer (some ⟨b, 0, none⟩), kidV k] ((W.setCell ⟨fb, 0, none⟩ (.bool false)).alloc (.cells (kcells k).toArray 61)) fun e w' => e = .returned (.tuple #[]) ∧ KSt w w' b (bs ++ kidB true q k) fb sb false sv) := lay_page q k hk h2 (by omega)
  have hlt : fb < W.heap.size := lt_of_heap h.ff
  unfold kidV at HL ⊢
  generalize (kcells k).toArray = KA at *
  clear h h1 h2 hk hx ha hl hsz c1 f1
  go_enter Tryz.func118, Tryz.ntmps118
  go_wp2_with (refine wpList_load_row (by rfl) 61 _ (by rfl) W.heap.size (by rfl) 61 KA (0, 0) _ r1 Tryz.underlying61 rfl hz ?_)
  refine HL.out.mono ?_
  rintro e w1 ⟨rfl, h3⟩
  go_wp2_with fail
  go_end0
  exact ⟨rfl, h3⟩
set_option maxRecDepth 100000 in
set_option maxHeartbeats 1000000 in
theorem kidNext_page {w W : World} {b : Nat} {bs : List UInt8} {fb sb xb ab rb ro n c : Nat} {s : ByteArray} (q : Int) (k : Kid) (hk : KidOk k) (h : KSt w W b bs fb sb false (.slice (some ⟨rb, ro, none⟩) (n + 1) c)) (hl : bs.length + (textB s).length ≤ 700000000000)
    (hx : w.cell? ⟨xb, 0, none⟩ = some (.func (.func 110) #[] #[])) (ha : w.cell? ⟨ab, 1, none⟩ = some (.int .i64 q)) (hs : w.cell? ⟨rb, ro, none⟩ = some (.string s)) (hc : n + 1 ≤ c) (hcm : c ≤ 9223372036854775807) :
    Calls Tryz.prog 118 #[.pointer (some ⟨b, 0, none⟩), kidV k, .pointer (some ⟨fb, 0, none⟩), .pointer (some ⟨sb, 0, none⟩), .pointer (some ⟨xb, 0, none⟩), .pointer (some ⟨ab, 0, none⟩)] W fun e w' => e = .returned (.tuple #[]) ∧ ∃ ra, KSt w w' b (bs ++ textB s ++ kidB true q k) fb sb false (.slice ra n (c - 1)) ∧ (0 < n → ra = some ⟨rb, ro + 1, none⟩) := by
  have h1 := h.alloc (.cells (kcells k).toArray 61)
  have hz := Tryz.infoKid2 hk
  have hls := textB_len s
  obtain ⟨c0, f0, c1, f1⟩ := h1.cells
  have s0 := h1.base.keep hs
  obtain ⟨V, hV⟩ : ∃ V, V = W.alloc (.cells (kcells k).toArray 61) := ⟨_, rfl⟩
  have r0 : V.heap[W.heap.size]? = some (.cells (kcells k).toArray 61 (0, 0)) := by rw [hV]; exact heap_alloc_new W _
  rw [← hV] at h1
  obtain ⟨g0, hw0, hg0⟩ := h.wr
  obtain ⟨lb, lg⟩ := hw0.ltb
  have hlf : fb < W.heap.size := lt_of_heap h.ff
  have hlsb : sb < W.heap.size := lt_of_heap h.sf
  have hwv : WrAt V b g0 bs := by rw [hV]; exact hw0.same1 ((Fr.refl _ W).alloc _)
  have HT : Hid (Calls Tryz.prog 119 #[.pointer (some ⟨b, 0, none⟩), .string s] V fun e w' => e = .returned (.tuple #[]) ∧ KSt w w' b (bs ++ textB s) fb sb false (.slice (some ⟨rb, ro, none⟩) (n + 1) c) ∧ w'.heap[W.heap.size]? = some (.cells (kcells k).toArray 61 (0, 0))) := by
    obtain ⟨g, hw, hst⟩ := h1.step
    have hgw := hw
    refine (wtext_calls s hwv (by omega)).mono fun e w' ⟨he, g', hw', st⟩ => ⟨he, ?_, st.keep r0 (by omega) (fun e => by have := lg _ e.symm; omega)⟩
    exact ⟨⟨g', hw', fun k hk => by
      rcases st.2 k hk with e | e
      · exact hg0 k e
      · have h5 := h1.base.size
        have l1 := lt_of_heap h1.ff
        have l2 := lt_of_heap h1.sf
        exact ⟨by omega, by omega, by omega⟩⟩, h1.ne, st.keep h1.ff (fun e => h1.ne.2.1 e.symm) (fun e => (hg0 _ e.symm).2.1 rfl), st.keep h1.sf (fun e => h1.ne.2.2.1 e.symm) (fun e => (hg0 _ e.symm).2.2 rfl), by
      refine Fr.trans h1.base st.1 ?_
      rintro i hi (e | e)
      · have := h1.ne.1; omega
      · have := (hg0 i e.symm).1; omega⟩
  have HL : Hid (∀ W2 sv, KSt w W2 b (bs ++ textB s) fb sb false sv → Calls Tryz.prog 110 #[.int .i64 q, .pointer (some ⟨b, 0, none⟩), kidV k] W2 fun e w' => e = .returned (.tuple #[]) ∧ KSt w w' b (bs ++ textB s ++ kidB true q k) fb sb false sv) := fun W2 sv h2 => lay_page q k hk h2 (by rw [List.length_append]; omega)
  have hnfs : ¬ fb = sb := h.ne.2.2.2.1
  have hnsf : ¬ sb = fb := fun e => hnfs e.symm
  unfold kidV at HL ⊢
  generalize (kcells k).toArray = KA at *
  clear h h1 hk hl hls hs hw0 hwv hg0 lb lg r0 g0
  go_enter Tryz.func118, Tryz.ntmps118
  go_wp2_with fail
  rw [← hV]
  clear hV c0 f0 c1 f1 s0
  refine HT.out.mono ?_
  rintro e w1 ⟨rfl, h1, r1⟩
  obtain ⟨c0, f0, c1, f1⟩ := h1.cells
  by_cases hc1 : c = 1
  · subst hc1
    obtain rfl : n = 0 := by omega
    have h2 := (h1.setS (.slice (some ⟨rb, ro, none⟩) 0 0)).setF false
    have hX := h2.base.keep hx
    have hA := h2.base.keep ha
    have f0 : (w1.setCell ⟨sb, 0, none⟩ (.slice (some ⟨rb, ro, none⟩) 0 0)).frozen? ⟨fb, 0, none⟩ = false := (h1.setS _).cells.2.1
    have r2 : ((w1.setCell ⟨sb, 0, none⟩ (.slice (some ⟨rb, ro, none⟩) 0 0)).setCell ⟨fb, 0, none⟩ (.bool false)).heap[W.heap.size]? = some (.cells KA 61 (0, 0)) := (Below.heap_setCell _ ⟨fb, 0, none⟩ _ W.heap.size (by simp only; omega)).trans ((Below.heap_setCell _ ⟨sb, 0, none⟩ _ W.heap.size (by simp only; omega)).trans r1)
    have HL2 : Hid (Calls Tryz.prog 110 #[.int .i64 q, .pointer (some ⟨b, 0, none⟩), .agg KA] ((w1.setCell ⟨sb, 0, none⟩ (.slice (some ⟨rb, ro, none⟩) 0 0)).setCell ⟨fb, 0, none⟩ (.bool false)) fun e w' => e = .returned (.tuple #[]) ∧ KSt w w' b (bs ++ textB s ++ kidB true q k) fb sb false (.slice (some ⟨rb, ro, none⟩) 0 0)) := HL.out _ _ h2
    clear h2 h1 HL hx ha r1
    go_wp2_with (refine wpList_load_row (by rfl) 61 _ (by rfl) W.heap.size (by rfl) 61 KA (0, 0) _ r2 Tryz.underlying61 rfl hz ?_)
    refine HL2.out.mono ?_
    rintro e w3 ⟨rfl, h3⟩
    go_wp2_with fail
    go_end0
    exact ⟨rfl, _, h3, fun h => by omega⟩
  · have hc2 : 2 ≤ c := by omega
    clear hc1
    have h2 := (h1.setS (.slice (some ⟨rb, ro + 1, none⟩) n (c - 1))).setF false
    have hX := h2.base.keep hx
    have hA := h2.base.keep ha
    have f0 : (w1.setCell ⟨sb, 0, none⟩ (.slice (some ⟨rb, ro + 1, none⟩) n (c - 1))).frozen? ⟨fb, 0, none⟩ = false := (h1.setS _).cells.2.1
    have r2 : ((w1.setCell ⟨sb, 0, none⟩ (.slice (some ⟨rb, ro + 1, none⟩) n (c - 1))).setCell ⟨fb, 0, none⟩ (.bool false)).heap[W.heap.size]? = some (.cells KA 61 (0, 0)) := (Below.heap_setCell _ ⟨fb, 0, none⟩ _ W.heap.size (by simp only; omega)).trans ((Below.heap_setCell _ ⟨sb, 0, none⟩ _ W.heap.size (by simp only; omega)).trans r1)
    have HL2 : Hid (Calls Tryz.prog 110 #[.int .i64 q, .pointer (some ⟨b, 0, none⟩), .agg KA] ((w1.setCell ⟨sb, 0, none⟩ (.slice (some ⟨rb, ro + 1, none⟩) n (c - 1))).setCell ⟨fb, 0, none⟩ (.bool false)) fun e w' => e = .returned (.tuple #[]) ∧ KSt w w' b (bs ++ textB s ++ kidB true q k) fb sb false (.slice (some ⟨rb, ro + 1, none⟩) n (c - 1))) := HL.out _ _ h2
    clear h2 h1 HL hx ha r1
    go_wp2_with (refine wpList_load_row (by rfl) 61 _ (by rfl) W.heap.size (by rfl) 61 KA (0, 0) _ r2 Tryz.underlying61 rfl hz ?_)
    refine HL2.out.mono ?_
    rintro e w3 ⟨rfl, h3⟩
    go_wp2_with fail
    go_end0
    exact ⟨rfl, _, h3, fun _ => rfl⟩
theorem lay_plain {w W : World} {b : Nat} {bs : List UInt8} {fb sb : Nat} {f : Bool} {sv : Value} (q : Int) (k : Kid) (hk : KidOk k) (h : KSt w W b bs fb sb f sv) (hl : bs.length ≤ 900000000000) :
    Calls Tryz.prog 122 #[.int .i64 q, .pointer (some ⟨b, 0, none⟩), kidV k] W fun e w' => e = .returned (.tuple #[]) ∧ KSt w w' b (bs ++ kidB false q k) fb sb f sv := by
  obtain ⟨g, hw, hs⟩ := h.step
  exact (laySum_calls q k hk hw hl).mono fun e w' ⟨he, g', hw', st⟩ => ⟨he, hs _ g' _ (by unfold kidB; simpa using hw') st⟩
set_option maxRecDepth 100000 in
set_option maxHeartbeats 1000000 in
theorem kidFirst_plain {w W : World} {b : Nat} {bs : List UInt8} {fb sb xb ab : Nat} {sv : Value} (q : Int) (k : Kid) (hk : KidOk k) (h : KSt w W b bs fb sb true sv) (hl : bs.length ≤ 700000000000)
    (hx : w.cell? ⟨xb, 0, none⟩ = some (.func (.func 122) #[] #[])) (ha : w.cell? ⟨ab, 1, none⟩ = some (.int .i64 q)) :
    Calls Tryz.prog 118 #[.pointer (some ⟨b, 0, none⟩), kidV k, .pointer (some ⟨fb, 0, none⟩), .pointer (some ⟨sb, 0, none⟩), .pointer (some ⟨xb, 0, none⟩), .pointer (some ⟨ab, 0, none⟩)] W fun e w' => e = .returned (.tuple #[]) ∧ KSt w w' b (bs ++ kidB false q k) fb sb false sv := by
  have h1 := h.alloc (.cells (kcells k).toArray 61)
  obtain ⟨c0, f0, c1, f1⟩ := h1.cells
  have h2 := (h.setF false).alloc (.cells (kcells k).toArray 61)
  have hX := h2.base.keep hx
  have hA := h2.base.keep ha
  have hz := Tryz.infoKid2 hk
  have hsz : (W.setCell ⟨fb, 0, none⟩ (.bool false)).heap.size = W.heap.size := by simp [World.setCell]
  have r1 : ((W.setCell ⟨fb, 0, none⟩ (.bool false)).alloc (.cells (kcells k).toArray 61)).heap[W.heap.size]? = some (.cells (kcells k).toArray 61 (0, 0)) := by
    have := heap_alloc_new (W.setCell ⟨fb, 0, none⟩ (.bool false)) (.cells (kcells k).toArray 61 (0, 0))
    rw [hsz] at this
    exact this
  have HL : Hid (Calls Tryz.prog 122 #[.int .i64 q, .pointer (some ⟨b, 0, none⟩), kidV k] ((W.setCell ⟨fb, 0, none⟩ (.bool false)).alloc (.cells (kcells k).toArray 61)) fun e w' => e = .returned (.tuple #[]) ∧ KSt w w' b (bs ++ kidB false q k) fb sb false sv) := lay_plain q k hk h2 (by omega)
  have hlt : fb < W.heap.size := lt_of_heap h.ff
  unfold kidV at HL ⊢
  generalize (kcells k).toArray = KA at *
  clear h h1 h2 hk hx ha hl hsz c1 f1
  go_enter Tryz.func118, Tryz.ntmps118
  go_wp2_with (refine wpList_load_row (by rfl) 61 _ (by rfl) W.heap.size (by rfl) 61 KA (0, 0) _ r1 Tryz.underlying61 rfl hz ?_)
  refine HL.out.mono ?_
  rintro e w1 ⟨rfl, h3⟩
  go_wp2_with fail
  go_end0
  exact ⟨rfl, h3⟩
set_option maxRecDepth 100000 in
set_option maxHeartbeats 1000000 in
theorem kidNext_plain {w W : World} {b : Nat} {bs : List UInt8} {fb sb xb ab rb ro n c : Nat} {s : ByteArray} (q : Int) (k : Kid) (hk : KidOk k) (h : KSt w W b bs fb sb false (.slice (some ⟨rb, ro, none⟩) (n + 1) c)) (hl : bs.length + (textB s).length ≤ 700000000000)
    (hx : w.cell? ⟨xb, 0, none⟩ = some (.func (.func 122) #[] #[])) (ha : w.cell? ⟨ab, 1, none⟩ = some (.int .i64 q)) (hs : w.cell? ⟨rb, ro, none⟩ = some (.string s)) (hc : n + 1 ≤ c) (hcm : c ≤ 9223372036854775807) :
    Calls Tryz.prog 118 #[.pointer (some ⟨b, 0, none⟩), kidV k, .pointer (some ⟨fb, 0, none⟩), .pointer (some ⟨sb, 0, none⟩), .pointer (some ⟨xb, 0, none⟩), .pointer (some ⟨ab, 0, none⟩)] W fun e w' => e = .returned (.tuple #[]) ∧ ∃ ra, KSt w w' b (bs ++ textB s ++ kidB false q k) fb sb false (.slice ra n (c - 1)) ∧ (0 < n → ra = some ⟨rb, ro + 1, none⟩) := by
  have h1 := h.alloc (.cells (kcells k).toArray 61)
  have hz := Tryz.infoKid2 hk
  have hls := textB_len s
  obtain ⟨c0, f0, c1, f1⟩ := h1.cells
  have s0 := h1.base.keep hs
  obtain ⟨V, hV⟩ : ∃ V, V = W.alloc (.cells (kcells k).toArray 61) := ⟨_, rfl⟩
  have r0 : V.heap[W.heap.size]? = some (.cells (kcells k).toArray 61 (0, 0)) := by rw [hV]; exact heap_alloc_new W _
  rw [← hV] at h1
  obtain ⟨g0, hw0, hg0⟩ := h.wr
  obtain ⟨lb, lg⟩ := hw0.ltb
  have hlf : fb < W.heap.size := lt_of_heap h.ff
  have hlsb : sb < W.heap.size := lt_of_heap h.sf
  have hwv : WrAt V b g0 bs := by rw [hV]; exact hw0.same1 ((Fr.refl _ W).alloc _)
  have HT : Hid (Calls Tryz.prog 119 #[.pointer (some ⟨b, 0, none⟩), .string s] V fun e w' => e = .returned (.tuple #[]) ∧ KSt w w' b (bs ++ textB s) fb sb false (.slice (some ⟨rb, ro, none⟩) (n + 1) c) ∧ w'.heap[W.heap.size]? = some (.cells (kcells k).toArray 61 (0, 0))) := by
    obtain ⟨g, hw, hst⟩ := h1.step
    have hgw := hw
    refine (wtext_calls s hwv (by omega)).mono fun e w' ⟨he, g', hw', st⟩ => ⟨he, ?_, st.keep r0 (by omega) (fun e => by have := lg _ e.symm; omega)⟩
    exact ⟨⟨g', hw', fun k hk => by
      rcases st.2 k hk with e | e
      · exact hg0 k e
      · have h5 := h1.base.size
        have l1 := lt_of_heap h1.ff
        have l2 := lt_of_heap h1.sf
        exact ⟨by omega, by omega, by omega⟩⟩, h1.ne, st.keep h1.ff (fun e => h1.ne.2.1 e.symm) (fun e => (hg0 _ e.symm).2.1 rfl), st.keep h1.sf (fun e => h1.ne.2.2.1 e.symm) (fun e => (hg0 _ e.symm).2.2 rfl), by
      refine Fr.trans h1.base st.1 ?_
      rintro i hi (e | e)
      · have := h1.ne.1; omega
      · have := (hg0 i e.symm).1; omega⟩
  have HL : Hid (∀ W2 sv, KSt w W2 b (bs ++ textB s) fb sb false sv → Calls Tryz.prog 122 #[.int .i64 q, .pointer (some ⟨b, 0, none⟩), kidV k] W2 fun e w' => e = .returned (.tuple #[]) ∧ KSt w w' b (bs ++ textB s ++ kidB false q k) fb sb false sv) := fun W2 sv h2 => lay_plain q k hk h2 (by rw [List.length_append]; omega)
  have hnfs : ¬ fb = sb := h.ne.2.2.2.1
  have hnsf : ¬ sb = fb := fun e => hnfs e.symm
  unfold kidV at HL ⊢
  generalize (kcells k).toArray = KA at *
  clear h h1 hk hl hls hs hw0 hwv hg0 lb lg r0 g0
  go_enter Tryz.func118, Tryz.ntmps118
  go_wp2_with fail
  rw [← hV]
  clear hV c0 f0 c1 f1 s0
  refine HT.out.mono ?_
  rintro e w1 ⟨rfl, h1, r1⟩
  obtain ⟨c0, f0, c1, f1⟩ := h1.cells
  by_cases hc1 : c = 1
  · subst hc1
    obtain rfl : n = 0 := by omega
    have h2 := (h1.setS (.slice (some ⟨rb, ro, none⟩) 0 0)).setF false
    have hX := h2.base.keep hx
    have hA := h2.base.keep ha
    have f0 : (w1.setCell ⟨sb, 0, none⟩ (.slice (some ⟨rb, ro, none⟩) 0 0)).frozen? ⟨fb, 0, none⟩ = false := (h1.setS _).cells.2.1
    have r2 : ((w1.setCell ⟨sb, 0, none⟩ (.slice (some ⟨rb, ro, none⟩) 0 0)).setCell ⟨fb, 0, none⟩ (.bool false)).heap[W.heap.size]? = some (.cells KA 61 (0, 0)) := (Below.heap_setCell _ ⟨fb, 0, none⟩ _ W.heap.size (by simp only; omega)).trans ((Below.heap_setCell _ ⟨sb, 0, none⟩ _ W.heap.size (by simp only; omega)).trans r1)
    have HL2 : Hid (Calls Tryz.prog 122 #[.int .i64 q, .pointer (some ⟨b, 0, none⟩), .agg KA] ((w1.setCell ⟨sb, 0, none⟩ (.slice (some ⟨rb, ro, none⟩) 0 0)).setCell ⟨fb, 0, none⟩ (.bool false)) fun e w' => e = .returned (.tuple #[]) ∧ KSt w w' b (bs ++ textB s ++ kidB false q k) fb sb false (.slice (some ⟨rb, ro, none⟩) 0 0)) := HL.out _ _ h2
    clear h2 h1 HL hx ha r1
    go_wp2_with (refine wpList_load_row (by rfl) 61 _ (by rfl) W.heap.size (by rfl) 61 KA (0, 0) _ r2 Tryz.underlying61 rfl hz ?_)
    refine HL2.out.mono ?_
    rintro e w3 ⟨rfl, h3⟩
    go_wp2_with fail
    go_end0
    exact ⟨rfl, _, h3, fun h => by omega⟩
  · have hc2 : 2 ≤ c := by omega
    clear hc1
    have h2 := (h1.setS (.slice (some ⟨rb, ro + 1, none⟩) n (c - 1))).setF false
    have hX := h2.base.keep hx
    have hA := h2.base.keep ha
    have f0 : (w1.setCell ⟨sb, 0, none⟩ (.slice (some ⟨rb, ro + 1, none⟩) n (c - 1))).frozen? ⟨fb, 0, none⟩ = false := (h1.setS _).cells.2.1
    have r2 : ((w1.setCell ⟨sb, 0, none⟩ (.slice (some ⟨rb, ro + 1, none⟩) n (c - 1))).setCell ⟨fb, 0, none⟩ (.bool false)).heap[W.heap.size]? = some (.cells KA 61 (0, 0)) := (Below.heap_setCell _ ⟨fb, 0, none⟩ _ W.heap.size (by simp only; omega)).trans ((Below.heap_setCell _ ⟨sb, 0, none⟩ _ W.heap.size (by simp only; omega)).trans r1)
    have HL2 : Hid (Calls Tryz.prog 122 #[.int .i64 q, .pointer (some ⟨b, 0, none⟩), .agg KA] ((w1.setCell ⟨sb, 0, none⟩ (.slice (some ⟨rb, ro + 1, none⟩) n (c - 1))).setCell ⟨fb, 0, none⟩ (.bool false)) fun e w' => e = .returned (.tuple #[]) ∧ KSt w w' b (bs ++ textB s ++ kidB false q k) fb sb false (.slice (some ⟨rb, ro + 1, none⟩) n (c - 1))) := HL.out _ _ h2
    clear h2 h1 HL hx ha r1
    go_wp2_with (refine wpList_load_row (by rfl) 61 _ (by rfl) W.heap.size (by rfl) 61 KA (0, 0) _ r2 Tryz.underlying61 rfl hz ?_)
    refine HL2.out.mono ?_
    rintro e w3 ⟨rfl, h3⟩
    go_wp2_with fail
    go_end0
    exact ⟨rfl, _, h3, fun _ => rfl⟩

def kidsB (pages : Bool) (q : Int) : Bool → List ByteArray → List Kid → List UInt8
  | _, _, [] => []
  | true, ss, k :: ks => kidB pages q k ++ kidsB pages q false ss ks
  | false, [], k :: ks => kidB pages q k ++ kidsB pages q false [] ks
  | false, s :: ss, k :: ks => textB s ++ kidB pages q k ++ kidsB pages q false ss ks
-- wants 150
theorem KSt.same {w W W' : World} {b : Nat} {bs : List UInt8} {fb sb : Nat} {f : Bool} {sv : Value} (h : KSt w W b bs fb sb f sv) (s : Same W W') : KSt w W' b bs fb sb f sv := by
  obtain ⟨g, hw, hs⟩ := h.step
  exact hs _ g bs (hw.same1 s) ⟨s.mono (fun _ _ f => f.elim), fun _ hk => Or.inl hk⟩
theorem zeroKid_lit : (#[.int .u32 0, .int .u8 0, .int .u8 0, .int .u8 0, .int .u8 0, .int .u8 0, .int .u8 0, .int .u8 0, .int .u8 0, .int .u8 0, .int .u8 0, .int .u8 0, .int .u8 0, .int .u8 0, .int .u8 0, .int .u8 0, .int .u8 0, .int .u8 0, .int .u8 0, .int .u8 0, .int .u8 0, .int .u8 0, .int .u8 0, .int .u8 0, .int .u8 0, .int .u8 0, .int .u8 0, .int .u8 0, .int .u8 0, .int .u8 0, .int .u8 0, .int .u8 0, .int .u8 0] : Array Value) = (kcells zeroKid).toArray := rfl
theorem kcells_one (k : Kid) : (kcells k).toArray.all (·.oneCell') = true := all_oneCell_toArray (by
  intro x hx
  simp only [kcells, List.mem_cons, bcells, List.mem_map] at hx
  rcases hx with rfl | ⟨b, _, rfl⟩ <;> rfl)
-- wants 150
theorem wst_kst {w W : World} {b : Nat} {bs : List UInt8} {fb sb : Nat} {f : Bool} {sv : Value} (h : KSt w W b bs fb sb f sv) : WSt w W b bs := by
  obtain ⟨g, hw, hg⟩ := h.wr
  exact ⟨g, hw, h.ne.1, fun k hk => (hg k hk).1, h.base⟩
/-- What is still to be laid. -/
def restB (pages : Bool) (q : Int) (ss : List ByteArray) (ks : List Kid) (k : Nat) : List UInt8 := kidsB pages q (decide (k = 0)) (ss.drop (k - 1)) (ks.drop k)
theorem restB_zero (pages : Bool) (q : Int) (ss : List ByteArray) (ks : List Kid) : restB pages q ss ks 0 = kidsB pages q true ss ks := rfl
theorem restB_first {pages : Bool} {q : Int} {ss : List ByteArray} {ks : List Kid} {x : Kid} (hx : ks[0]? = some x) : restB pages q ss ks 0 = kidB pages q x ++ restB pages q ss ks 1 := by
  cases ks with
  | nil => simp at hx
  | cons y ks => simp at hx; subst hx; rfl
theorem restB_next {pages : Bool} {q : Int} {ss : List ByteArray} {ks : List Kid} {x : Kid} {s : ByteArray} {k : Nat} (hx : ks[k + 1]? = some x) (hs : ss[k]? = some s) : restB pages q ss ks (k + 1) = textB s ++ kidB pages q x ++ restB pages q ss ks (k + 2) := by
  have hl := (List.getElem?_eq_some_iff.1 hx).1
  have hl2 := (List.getElem?_eq_some_iff.1 hs).1
  have e1 : ks.drop (k + 1) = x :: ks.drop (k + 2) := by
    have e : ks[k + 1] = x := by rw [List.getElem?_eq_getElem hl] at hx; exact Option.some.inj hx
    rw [List.drop_eq_getElem_cons hl, e]
  have e2 : ss.drop k = s :: ss.drop (k + 1) := by
    have e : ss[k] = s := by rw [List.getElem?_eq_getElem hl2] at hs; exact Option.some.inj hs
    rw [List.drop_eq_getElem_cons hl2, e]
  unfold restB
  rw [show k + 1 - 1 = k from rfl, show k + 2 - 1 = k + 1 from rfl, e1, e2]
  rfl
theorem restB_len {pages : Bool} {q : Int} {ss : List ByteArray} {ks : List Kid} {k : Nat} (h : ks.length ≤ k) : restB pages q ss ks k = [] := by
  unfold restB
  rw [List.drop_of_length_le h]
  cases (decide (k = 0)) <;> cases (ss.drop (k - 1)) <;> rfl

theorem eql_kids_page (W : World) (fb sb xb ab : Nat) : (binOp .eql 133 (.func (.func 118) #[] #[.pointer (some ⟨fb, 0, none⟩), .pointer (some ⟨sb, 0, none⟩), .pointer (some ⟨xb, 0, none⟩), .pointer (some ⟨ab, 0, none⟩)]) .nilFunc).run Tryz.prog W = .ok (.bool false) W := by kernel_rfl
set_option maxRecDepth 100000 in
set_option maxHeartbeats 1000000 in
theorem eachKid_page {w W : World} {b : Nat} {bs : List UInt8} {fb sb xb ab : Nat} {q : Int} {ss : List ByteArray} {ks : List Kid} {sa ka : Option Addr} {rb ro cs kb ko ck : Nat} (hS : TRow w sa rb ro ss) (hK : KRow w ka kb ko ks) (hok : ∀ x ∈ ks, KidOk x) (hsl : ss.length + 1 = ks.length) (hcs : ss.length ≤ cs) (hcm : cs ≤ 9223372036854775807) (hn : ks.length ≤ 100000000000)
    (h : KSt w W b bs fb sb true (.slice sa ss.length cs)) (hl : bs.length + (kidsB true q true ss ks).length ≤ 600000000000)
    (hx : w.cell? ⟨xb, 0, none⟩ = some (.func (.func 110) #[] #[])) (ha : w.cell? ⟨ab, 1, none⟩ = some (.int .i64 q)) :
    Calls Tryz.prog 117 #[.pointer (some ⟨b, 0, none⟩), .slice ka ks.length ck, .func (.func 118) #[] #[.pointer (some ⟨fb, 0, none⟩), .pointer (some ⟨sb, 0, none⟩), .pointer (some ⟨xb, 0, none⟩), .pointer (some ⟨ab, 0, none⟩)]] W fun e w' => e = .returned (.tuple #[]) ∧ WSt w w' b (bs ++ (freeB ks.length ++ kidsB true q true ss ks)) := by
  have hef := fun W => eql_kids_page W fb sb xb ab
  obtain ⟨n, hnn⟩ : ∃ n, n = ks.length := ⟨_, rfl⟩
  rw [← hnn] at hn ⊢
  have HT : Hid (Calls Tryz.prog 125 #[.pointer (some ⟨b, 0, none⟩)] W fun e w' => e = .returned (.bool true) ∧ W = w') := wst_there (wst_kst h)
  have HFR : Hid (Calls Tryz.prog 127 #[.pointer (some ⟨b, 0, none⟩), .int .u64 n] W fun e w' => e = .returned (.tuple #[]) ∧ KSt w w' b (bs ++ freeB n) fb sb true (.slice sa ss.length cs)) := by
    obtain ⟨g, hw, hst⟩ := h.step
    exact (wfree_calls n (by omega) hw (by omega)).mono fun e w' ⟨he, g', hw', st⟩ => ⟨he, hst _ g' _ hw' st⟩
  have hfl := freeB_length n
  have HP : Hid (TRow w sa rb ro ss ∧ KRow w ka kb ko ks ∧ (∀ x ∈ ks, KidOk x) ∧ ss.length + 1 = ks.length ∧ ss.length ≤ cs ∧ cs ≤ 9223372036854775807 ∧ bs.length + (kidsB true q true ss ks).length ≤ 600000000000 ∧ n = ks.length) := ⟨hS, hK, hok, hsl, hcs, hcm, hl, hnn⟩
  have HXA : Hid (w.cell? ⟨xb, 0, none⟩ = some (.func (.func 110) #[] #[]) ∧ w.cell? ⟨ab, 1, none⟩ = some (.int .i64 q)) := ⟨hx, ha⟩
  have hzl := zeroKid_lit
  have hzs : (kcells zeroKid).toArray.size = 33 := rfl
  obtain ⟨ZK, hZK⟩ : ∃ ZK, ZK = (kcells zeroKid).toArray := ⟨_, rfl⟩
  rw [← hZK] at hzl hzs
  clear hZK hS hK hok hsl hcs hcm hl hnn hx ha h
  go_enter Tryz.func117, Tryz.ntmps117
  go_wp2_with (go_at_call 125; refine HT.out.mono ?_; rintro e w' ⟨rfl, rfl⟩)
  refine HFR.out.mono ?_
  rintro e w1 ⟨rfl, h1⟩
  clear HT HFR
  go_wp2_with fail
  go_loopg [20] n (fun gk iv wr => ∃ (k : Nat) (cur : List UInt8) (ra : Option Addr), iv = .int .i64 (k : Int) ∧ k ≤ n ∧ gk = n - k ∧ Hid (KSt w wr b cur fb sb (decide (k = 0)) (.slice ra (ss.length - (k - 1)) (cs - (k - 1)))) ∧ Hid (bs ++ (freeB n ++ kidsB true q true ss ks) = cur ++ restB true q ss ks k) ∧ Hid (k - 1 < ss.length → ra = some ⟨rb, ro + (k - 1), none⟩))
  case atStart => exact ⟨0, bs ++ freeB n, sa, rfl, by omega, rfl, h1, by show _ = _; rw [restB_zero, List.append_assoc], fun hlt => (HP.out.1.place (by intro e; rw [e] at hlt; simp at hlt)).1⟩
  case round =>
    obtain ⟨k, cur, ra, rfl, hk, hgk, HW, HCU, HRA⟩ := hrel
    obtain ⟨p1, p2, p3, p4, p5, p6, p7, p8⟩ := HP.out
    by_cases hgo : k < n
    · obtain ⟨x, hx⟩ : ∃ x, ks[k]? = some x := ⟨_, List.getElem?_eq_getElem (by rw [← p8]; exact hgo)⟩
      have hox := p3 x (List.mem_of_getElem? hx)
      have hkl : (Tryz.prog.info? 61).map (·.size) = some (kcells x).length := by rw [Tryz.infoKid, kcells_length hox.d]
      have hkz := Tryz.infoKid2 hox
      have hks : (kcells x).toArray.size = 33 := by rw [List.size_toArray, kcells_length hox.d]
      have hko := kcells_one x
      obtain ⟨hka, hklt⟩ := p2.place (by intro e; rw [e] at hx; simp at hx)
      have hc := (p2.same HW.out.base).cells k x hx
      have HC : Hid (∀ V, Same wr V → Calls Tryz.prog 118 #[.pointer (some ⟨b, 0, none⟩), kidV x, .pointer (some ⟨fb, 0, none⟩), .pointer (some ⟨sb, 0, none⟩), .pointer (some ⟨xb, 0, none⟩), .pointer (some ⟨ab, 0, none⟩)] V fun e w' => e = .returned (.tuple #[]) ∧ ∃ cur2 ra2, KSt w w' b cur2 fb sb false (.slice ra2 (ss.length - k) (cs - k)) ∧ bs ++ (freeB n ++ kidsB true q true ss ks) = cur2 ++ restB true q ss ks (k + 1) ∧ (k < ss.length → ra2 = some ⟨rb, ro + k, none⟩)) := by
        intro V hV
        have hkv := HW.out.same hV
        have htot : cur.length + (restB true q ss ks k).length ≤ 600000000100 := by
          have := congrArg List.length HCU.out
          simp only [List.length_append] at this
          omega
        cases k with
        | zero =>
          have e1 := restB_first (pages := true) (q := q) (ss := ss) hx
          refine (kidFirst_page q x hox hkv (by omega) HXA.out.1 HXA.out.2).mono fun e w' ⟨he, h3⟩ => ⟨he, cur ++ kidB true q x, ra, h3, ?_, fun hlt => HRA.out hlt⟩
          rw [HCU.out, e1, List.append_assoc]
        | succ k =>
          obtain ⟨s, hs⟩ : ∃ s, ss[k]? = some s := ⟨_, List.getElem?_eq_getElem (by omega)⟩
          have e1 := restB_next (pages := true) (q := q) hx hs
          have hra := HRA.out (show k + 1 - 1 < ss.length by omega)
          have hse : w.cell? ⟨rb, ro + k, none⟩ = some (.string s) := p1.cells k s hs
          rw [show k + 1 - 1 = k from rfl] at hra hkv
          rw [hra, show ss.length - k = (ss.length - (k + 1)) + 1 from by omega, show decide (k + 1 = 0) = false from rfl] at hkv
          have hll : cur.length + (textB s).length ≤ 700000000000 := by
            rw [e1, List.length_append, List.length_append] at htot; omega
          refine (kidNext_page q x hox hkv hll HXA.out.1 HXA.out.2 hse (by omega) (by omega)).mono fun e w' ⟨he, ra2, h3, h4⟩ => ⟨he, cur ++ textB s ++ kidB true q x, ra2, ?_, ?_, fun hlt => ?_⟩
          · rw [show cs - (k + 1) = cs - k - 1 from by omega]; exact h3
          · rw [HCU.out, e1]; simp [List.append_assoc]
          · rw [h4 (by omega)]; rfl
      unfold kidV at HC
      have HCL : Hid (wr.rangeAt kb (ko + k * 33) (kcells x)) := hc
      subst hka
      clear p1 p2 p3 p4 p5 p6 p7 p8 hx hox HW HCU HRA hc
      have hc := HCL.out
      clear HCL
      generalize kcells x = KL at *
      go_wp2_with (first | (refine wpList_load_mid (by rfl) 61 _ (by rfl) kb (ko + k * 33) (by rfl) KL _ hc Tryz.underlying61 rfl hkl ?_) | (refine wpList_store_whole (by rfl) 61 _ _ (by rfl) wr.heap.size KL.toArray ZK 61 (by rfl) (by rfl) (heap_alloc_new wr _) (by rw [hzs, hks]) hkz hko ?_; intro W3 r3 f3; have s3 : Same wr W3 := Fr.trans ((Fr.refl _ wr).alloc _) f3 (fun i hi e => by omega)) | (refine wpList_load_row (by rfl) 61 _ (by rfl) wr.heap.size (by rfl) 61 KL.toArray (0, 0) _ r3 Tryz.underlying61 rfl hkz ?_))
      refine (HC.out _ s3).mono ?_
      rintro e w2 ⟨rfl, cur2, ra2, h3, h4, h5⟩
      have H3 : Hid (KSt w w2 b cur2 fb sb false (.slice ra2 (ss.length - k) (cs - k))) := h3
      have H4 : Hid (bs ++ (freeB n ++ kidsB true q true ss ks) = cur2 ++ restB true q ss ks (k + 1)) := h4
      have H5 : Hid (k < ss.length → ra2 = some ⟨rb, ro + k, none⟩) := h5
      clear h3 h4 h5 HC r3 f3 s3 hc
      go_wp2_with fail
      go_roundg (n - (k + 1))
      case measure => omega
      case rel => exact ⟨k + 1, cur2, ra2, by go_num, by omega, rfl, H3, H4, H5⟩
    · obtain rfl : k = n := by omega
      have HE : Hid (cur = bs ++ (freeB k ++ kidsB true q true ss ks)) := by
        show _ = _
        have := HCU.out
        rw [restB_len (by omega), List.append_nil] at this
        exact this.symm
      have HWS : Hid (WSt w wr b cur) := wst_kst HW.out
      clear HW HCU HRA p1 p2 p3 p4 p5 p6 p7 p8
      go_wp2_with fail
      go_end0
      refine ⟨rfl, ?_⟩
      rw [← HE.out]; exact HWS.out
theorem eql_kids_plain (W : World) (fb sb xb ab : Nat) : (binOp .eql 133 (.func (.func 118) #[] #[.pointer (some ⟨fb, 0, none⟩), .pointer (some ⟨sb, 0, none⟩), .pointer (some ⟨xb, 0, none⟩), .pointer (some ⟨ab, 0, none⟩)]) .nilFunc).run Tryz.prog W = .ok (.bool false) W := by kernel_rfl
set_option maxRecDepth 100000 in
set_option maxHeartbeats 1000000 in
theorem eachKid_plain {w W : World} {b : Nat} {bs : List UInt8} {fb sb xb ab : Nat} {q : Int} {ss : List ByteArray} {ks : List Kid} {sa ka : Option Addr} {rb ro cs kb ko ck : Nat} (hS : TRow w sa rb ro ss) (hK : KRow w ka kb ko ks) (hok : ∀ x ∈ ks, KidOk x) (hsl : ss.length + 1 = ks.length) (hcs : ss.length ≤ cs) (hcm : cs ≤ 9223372036854775807) (hn : ks.length ≤ 100000000000)
    (h : KSt w W b bs fb sb true (.slice sa ss.length cs)) (hl : bs.length + (kidsB false q true ss ks).length ≤ 600000000000)
    (hx : w.cell? ⟨xb, 0, none⟩ = some (.func (.func 122) #[] #[])) (ha : w.cell? ⟨ab, 1, none⟩ = some (.int .i64 q)) :
    Calls Tryz.prog 117 #[.pointer (some ⟨b, 0, none⟩), .slice ka ks.length ck, .func (.func 118) #[] #[.pointer (some ⟨fb, 0, none⟩), .pointer (some ⟨sb, 0, none⟩), .pointer (some ⟨xb, 0, none⟩), .pointer (some ⟨ab, 0, none⟩)]] W fun e w' => e = .returned (.tuple #[]) ∧ WSt w w' b (bs ++ (freeB ks.length ++ kidsB false q true ss ks)) := by
  have hef := fun W => eql_kids_plain W fb sb xb ab
  obtain ⟨n, hnn⟩ : ∃ n, n = ks.length := ⟨_, rfl⟩
  rw [← hnn] at hn ⊢
  have HT : Hid (Calls Tryz.prog 125 #[.pointer (some ⟨b, 0, none⟩)] W fun e w' => e = .returned (.bool true) ∧ W = w') := wst_there (wst_kst h)
  have HFR : Hid (Calls Tryz.prog 127 #[.pointer (some ⟨b, 0, none⟩), .int .u64 n] W fun e w' => e = .returned (.tuple #[]) ∧ KSt w w' b (bs ++ freeB n) fb sb true (.slice sa ss.length cs)) := by
    obtain ⟨g, hw, hst⟩ := h.step
    exact (wfree_calls n (by omega) hw (by omega)).mono fun e w' ⟨he, g', hw', st⟩ => ⟨he, hst _ g' _ hw' st⟩
  have hfl := freeB_length n
  have HP : Hid (TRow w sa rb ro ss ∧ KRow w ka kb ko ks ∧ (∀ x ∈ ks, KidOk x) ∧ ss.length + 1 = ks.length ∧ ss.length ≤ cs ∧ cs ≤ 9223372036854775807 ∧ bs.length + (kidsB false q true ss ks).length ≤ 600000000000 ∧ n = ks.length) := ⟨hS, hK, hok, hsl, hcs, hcm, hl, hnn⟩
  have HXA : Hid (w.cell? ⟨xb, 0, none⟩ = some (.func (.func 122) #[] #[]) ∧ w.cell? ⟨ab, 1, none⟩ = some (.int .i64 q)) := ⟨hx, ha⟩
  have hzl := zeroKid_lit
  have hzs : (kcells zeroKid).toArray.size = 33 := rfl
  obtain ⟨ZK, hZK⟩ : ∃ ZK, ZK = (kcells zeroKid).toArray := ⟨_, rfl⟩
  rw [← hZK] at hzl hzs
  clear hZK hS hK hok hsl hcs hcm hl hnn hx ha h
  go_enter Tryz.func117, Tryz.ntmps117
  go_wp2_with (go_at_call 125; refine HT.out.mono ?_; rintro e w' ⟨rfl, rfl⟩)
  refine HFR.out.mono ?_
  rintro e w1 ⟨rfl, h1⟩
  clear HT HFR
  go_wp2_with fail
  go_loopg [20] n (fun gk iv wr => ∃ (k : Nat) (cur : List UInt8) (ra : Option Addr), iv = .int .i64 (k : Int) ∧ k ≤ n ∧ gk = n - k ∧ Hid (KSt w wr b cur fb sb (decide (k = 0)) (.slice ra (ss.length - (k - 1)) (cs - (k - 1)))) ∧ Hid (bs ++ (freeB n ++ kidsB false q true ss ks) = cur ++ restB false q ss ks k) ∧ Hid (k - 1 < ss.length → ra = some ⟨rb, ro + (k - 1), none⟩))
  case atStart => exact ⟨0, bs ++ freeB n, sa, rfl, by omega, rfl, h1, by show _ = _; rw [restB_zero, List.append_assoc], fun hlt => (HP.out.1.place (by intro e; rw [e] at hlt; simp at hlt)).1⟩
  case round =>
    obtain ⟨k, cur, ra, rfl, hk, hgk, HW, HCU, HRA⟩ := hrel
    obtain ⟨p1, p2, p3, p4, p5, p6, p7, p8⟩ := HP.out
    by_cases hgo : k < n
    · obtain ⟨x, hx⟩ : ∃ x, ks[k]? = some x := ⟨_, List.getElem?_eq_getElem (by rw [← p8]; exact hgo)⟩
      have hox := p3 x (List.mem_of_getElem? hx)
      have hkl : (Tryz.prog.info? 61).map (·.size) = some (kcells x).length := by rw [Tryz.infoKid, kcells_length hox.d]
      have hkz := Tryz.infoKid2 hox
      have hks : (kcells x).toArray.size = 33 := by rw [List.size_toArray, kcells_length hox.d]
      have hko := kcells_one x
      obtain ⟨hka, hklt⟩ := p2.place (by intro e; rw [e] at hx; simp at hx)
      have hc := (p2.same HW.out.base).cells k x hx
      have HC : Hid (∀ V, Same wr V → Calls Tryz.prog 118 #[.pointer (some ⟨b, 0, none⟩), kidV x, .pointer (some ⟨fb, 0, none⟩), .pointer (some ⟨sb, 0, none⟩), .pointer (some ⟨xb, 0, none⟩), .pointer (some ⟨ab, 0, none⟩)] V fun e w' => e = .returned (.tuple #[]) ∧ ∃ cur2 ra2, KSt w w' b cur2 fb sb false (.slice ra2 (ss.length - k) (cs - k)) ∧ bs ++ (freeB n ++ kidsB false q true ss ks) = cur2 ++ restB false q ss ks (k + 1) ∧ (k < ss.length → ra2 = some ⟨rb, ro + k, none⟩)) := by
        intro V hV
        have hkv := HW.out.same hV
        have htot : cur.length + (restB false q ss ks k).length ≤ 600000000100 := by
          have := congrArg List.length HCU.out
          simp only [List.length_append] at this
          omega
        cases k with
        | zero =>
          have e1 := restB_first (pages := false) (q := q) (ss := ss) hx
          refine (kidFirst_plain q x hox hkv (by omega) HXA.out.1 HXA.out.2).mono fun e w' ⟨he, h3⟩ => ⟨he, cur ++ kidB false q x, ra, h3, ?_, fun hlt => HRA.out hlt⟩
          rw [HCU.out, e1, List.append_assoc]
        | succ k =>
          obtain ⟨s, hs⟩ : ∃ s, ss[k]? = some s := ⟨_, List.getElem?_eq_getElem (by omega)⟩
          have e1 := restB_next (pages := false) (q := q) hx hs
          have hra := HRA.out (show k + 1 - 1 < ss.length by omega)
          have hse : w.cell? ⟨rb, ro + k, none⟩ = some (.string s) := p1.cells k s hs
          rw [show k + 1 - 1 = k from rfl] at hra hkv
          rw [hra, show ss.length - k = (ss.length - (k + 1)) + 1 from by omega, show decide (k + 1 = 0) = false from rfl] at hkv
          have hll : cur.length + (textB s).length ≤ 700000000000 := by
            rw [e1, List.length_append, List.length_append] at htot; omega
          refine (kidNext_plain q x hox hkv hll HXA.out.1 HXA.out.2 hse (by omega) (by omega)).mono fun e w' ⟨he, ra2, h3, h4⟩ => ⟨he, cur ++ textB s ++ kidB false q x, ra2, ?_, ?_, fun hlt => ?_⟩
          · rw [show cs - (k + 1) = cs - k - 1 from by omega]; exact h3
          · rw [HCU.out, e1]; simp [List.append_assoc]
          · rw [h4 (by omega)]; rfl
      unfold kidV at HC
      have HCL : Hid (wr.rangeAt kb (ko + k * 33) (kcells x)) := hc
      subst hka
      clear p1 p2 p3 p4 p5 p6 p7 p8 hx hox HW HCU HRA hc
      have hc := HCL.out
      clear HCL
      generalize kcells x = KL at *
      go_wp2_with (first | (refine wpList_load_mid (by rfl) 61 _ (by rfl) kb (ko + k * 33) (by rfl) KL _ hc Tryz.underlying61 rfl hkl ?_) | (refine wpList_store_whole (by rfl) 61 _ _ (by rfl) wr.heap.size KL.toArray ZK 61 (by rfl) (by rfl) (heap_alloc_new wr _) (by rw [hzs, hks]) hkz hko ?_; intro W3 r3 f3; have s3 : Same wr W3 := Fr.trans ((Fr.refl _ wr).alloc _) f3 (fun i hi e => by omega)) | (refine wpList_load_row (by rfl) 61 _ (by rfl) wr.heap.size (by rfl) 61 KL.toArray (0, 0) _ r3 Tryz.underlying61 rfl hkz ?_))
      refine (HC.out _ s3).mono ?_
      rintro e w2 ⟨rfl, cur2, ra2, h3, h4, h5⟩
      have H3 : Hid (KSt w w2 b cur2 fb sb false (.slice ra2 (ss.length - k) (cs - k))) := h3
      have H4 : Hid (bs ++ (freeB n ++ kidsB false q true ss ks) = cur2 ++ restB false q ss ks (k + 1)) := h4
      have H5 : Hid (k < ss.length → ra2 = some ⟨rb, ro + k, none⟩) := h5
      clear h3 h4 h5 HC r3 f3 s3 hc
      go_wp2_with fail
      go_roundg (n - (k + 1))
      case measure => omega
      case rel => exact ⟨k + 1, cur2, ra2, by go_num, by omega, rfl, H3, H4, H5⟩
    · obtain rfl : k = n := by omega
      have HE : Hid (cur = bs ++ (freeB k ++ kidsB false q true ss ks)) := by
        show _ = _
        have := HCU.out
        rw [restB_len (by omega), List.append_nil] at this
        exact this.symm
      have HWS : Hid (WSt w wr b cur) := wst_kst HW.out
      clear HW HCU HRA p1 p2 p3 p4 p5 p6 p7 p8
      go_wp2_with fail
      go_end0
      refine ⟨rfl, ?_⟩
      rw [← HE.out]; exact HWS.out

set_option maxRecDepth 100000 in
theorem new_wst (w : World) : Calls Tryz.prog 112 #[] w fun e w' => e = .returned (.pointer (some ⟨w.heap.size, 0, none⟩)) ∧ WSt w w' w.heap.size [] := by
  have h := wst_new w
  go_enter Tryz.func112, Tryz.ntmps112
  go_wp2
  go_ret
  exact ⟨rfl, h⟩
/-- A form: how a kid is laid, how it is read. -/
abbrev pageV : Value := .agg #[.func (.func 110) #[] #[], .func (.func 111) #[] #[]]
abbrev plainV : Value := .agg #[.func (.func 122) #[] #[], .func (.func 124) #[] #[]]
set_option maxRecDepth 100000 in
theorem pageForm_calls (w : World) : Calls Tryz.prog 105 #[] w fun e w' => e = .returned pageV ∧ Same w w' := by
  go_enter Tryz.func105, Tryz.ntmps105
  have hz : (Tryz.prog.info? 129).map (·.size) = some (#[Value.func (.func 110) #[] #[], Value.func (.func 111) #[] #[]] : Array Value).size := by kernel_rfl
  have ho : (#[Value.func (.func 110) #[] #[], Value.func (.func 111) #[] #[]] : Array Value).all (·.oneCell') = true := by kernel_rfl
  go_wp2_with (refine wpList_store_whole (by rfl) 129 _ _ (by rfl) w.heap.size #[.func (.func 110) #[] #[], .func (.func 111) #[] #[]] #[.nilFunc, .nilFunc] 129 (by rfl) (by rfl) (heap_alloc_new w _) rfl hz ho ?_; intro W1 r1 f1)
  exact bodyPost_ret (results_cell_row (p := 0) (ty := 129) (by kernel_rfl) _ _ w.heap.size 129 _ (0, 0) _ rfl r1 Tryz.underlying129 rfl (by kernel_rfl)) rfl ⟨rfl, Fr.trans ((Fr.refl _ w).alloc _) f1 (fun i hi e => by omega)⟩
/-- A node's bytes. -/
def formN (pages : Bool) (q : Int) (N : Nd) : List UInt8 := if leafB N = true then 1 :: (freeB N.ps.length ++ pairsB N.ps) else 2 :: (freeB N.ks.length ++ kidsB pages q true N.ss N.ks)
theorem kidsB_many {pages : Bool} {q : Int} (ss : List ByteArray) (ks : List Kid) (h : ss.length + 1 = ks.length) : ks.length ≤ (kidsB pages q true ss ks).length + 1 := by
  have hf : ∀ (ss : List ByteArray) (ks : List Kid), ss.length = ks.length → ks.length ≤ (kidsB pages q false ss ks).length := by
    intro ss
    induction ss with
    | nil => intro ks h; cases ks with
      | nil => simp
      | cons k ks => simp at h
    | cons s ss ih => intro ks h; cases ks with
      | nil => simp
      | cons k ks =>
        have h2 := ih ks (by simpa using h)
        have h1 : 1 ≤ (textB s).length := by
          unfold textB
          have : 1 ≤ (freeB s.size).length := by unfold freeB freeF; split <;> simp
          rw [List.length_append]; omega
        show (k :: ks).length ≤ (textB s ++ kidB pages q k ++ kidsB pages q false ss ks).length
        simp only [List.length_append, List.length_cons]
        omega
  cases ks with
  | nil => simp
  | cons k ks =>
    have := hf ss ks (by simpa using h)
    show (k :: ks).length ≤ (kidB pages q k ++ kidsB pages q false ss ks).length + 1
    rw [List.length_append, List.length_cons]; omega
-- wants 150
theorem kst_new {w W : World} {b : Nat} {bs : List UInt8} (h : WSt w W b bs) (sv : Value) : KSt w ((W.alloc (.cells #[sv] 25)).alloc (.cells #[.bool true] 4)) b bs (W.heap.size + 1) W.heap.size true sv := by
  obtain ⟨g, hw, h2, h3, h4⟩ := h
  obtain ⟨lb, lg⟩ := hw.ltb
  have hs := h4.size
  refine ⟨⟨g, hw.same1 (((Fr.refl _ W).alloc _).alloc _), fun k hk => ⟨h3 k hk, by have := lg k hk; omega, by have := lg k hk; omega⟩⟩, ⟨h2, by omega, by omega, by omega, by omega, by omega⟩, ?_, ?_, (h4.alloc _).alloc _⟩
  · exact heap_alloc2_new W _ _
  · exact heap_alloc2_old W _ _
structure NdCap (r : Nr) (N : Nd) : Prop where
  cs : N.ss.length ≤ r.cs
  cm : r.cs ≤ 9223372036854775807
set_option maxRecDepth 100000 in
set_option maxHeartbeats 1000000 in
theorem bytes_page {p q : Int} {r : Nr} {N : Nd} (w : World) (h : NdAt w r N) (hc : NdCap r N) (hsl : leafB N = false → N.ss.length + 1 = N.ks.length) (hlen : (formN true q N).length ≤ 50000000000) :
    Calls Tryz.prog 106 #[pageV, frameV p q, ndV r N] w fun e w' => e = .returned (.string ⟨(formN true q N).toArray⟩) ∧ Same w w' := by
  obtain ⟨V, hV⟩ : ∃ V, V = ((w.alloc (.cells #[.func (.func 110) #[] #[], .func (.func 111) #[] #[]] 129)).alloc (.cells #[.int .i64 p, .int .i64 q] 23)).alloc (.cells #[.slice r.pa N.ps.length r.cp, .slice r.sa N.ss.length r.cs, .slice r.ka N.ks.length r.ck] 28) := ⟨_, rfl⟩
  have sx : Same w V := by rw [hV]; exact (((Fr.refl _ w).alloc _).alloc _).alloc _
  have x0 : V.cell? ⟨w.heap.size, 0, none⟩ = some (.func (.func 110) #[] #[]) := by rw [hV, cell_of_row _ _ _ _ _ _ (heap3 w _ _ _).1]; rfl
  have a1 : V.cell? ⟨w.heap.size + 1, 1, none⟩ = some (.int .i64 q) := by rw [hV, cell_of_row _ _ _ _ _ _ (heap3 w _ _ _).2.1]; rfl
  have n0 : V.cell? ⟨w.heap.size + 1 + 1, 0, none⟩ = some (.slice r.pa N.ps.length r.cp) := by rw [hV, cell_of_row _ _ _ _ _ _ (heap3 w _ _ _).2.2]; rfl
  have n1 : V.cell? ⟨w.heap.size + 1 + 1, 1, none⟩ = some (.slice r.sa N.ss.length r.cs) := by rw [hV, cell_of_row _ _ _ _ _ _ (heap3 w _ _ _).2.2]; rfl
  have n2 : V.cell? ⟨w.heap.size + 1 + 1, 2, none⟩ = some (.slice r.ka N.ks.length r.ck) := by rw [hV, cell_of_row _ _ _ _ _ _ (heap3 w _ _ _).2.2]; rfl
  have hv := h.same sx
  have HN : Hid (Calls Tryz.prog 112 #[] V fun e w' => e = .returned (.pointer (some ⟨V.heap.size, 0, none⟩)) ∧ WSt V w' V.heap.size []) := new_wst V
  have HI : Hid (∀ W, Calls Tryz.prog 52 #[ndV r N] W fun e w' => e = .returned (.bool (leafB N)) ∧ Same W w') := fun W => isLeaf_calls W
  by_cases hlf : leafB N = true
  · have hf : formN true q N = 1 :: (freeB N.ps.length ++ pairsB N.ps) := by unfold formN; rw [if_pos hlf]
    rw [hlf] at HI
    rw [hf] at hlen ⊢
    have HE : Hid (∀ W, WSt V W V.heap.size [1] → Calls Tryz.prog 114 #[.pointer (some ⟨V.heap.size, 0, none⟩), .slice r.pa N.ps.length r.cp, .func (.func 115) #[] #[]] W fun e w' => e = .returned (.tuple #[]) ∧ WSt V w' V.heap.size ([1] ++ (freeB N.ps.length ++ pairsB N.ps))) := by
      intro W hW
      obtain ⟨g, h1, h2, h3, h4⟩ := hW
      have hp := hv.hp.same h4
      have hlt : N.ps ≠ [] → r.pb < V.heap.size := fun e => (hv.hp.place e).2
      simp only [List.length_cons, List.length_append] at hlen
      have hpl : N.ps.length ≤ (pairsB N.ps).length := by
        clear hlen hf HI hlf hv h hp hlt n0 n1 n2
        induction N.ps with
        | nil => simp
        | cons x l ih =>
          have e : pairsB (x :: l) = pairB x ++ pairsB l := rfl
          have h1 : 1 ≤ (pairB x).length := by
            unfold pairB textB
            have : 1 ≤ (freeB x.1.size).length := by
              unfold freeB freeF; split <;> simp
            simp only [List.length_append]; omega
          rw [e, List.length_append, List.length_cons]; omega
      exact (eachPair_calls N.ps r.pa r.pb r.po r.cp hp (fun e => by have := hlt e; omega) (fun e e2 => by have := h3 _ e2.symm; have := hlt e; omega) (by omega) h1 (by simp only [List.length_cons, List.length_nil]; omega)).mono fun e w' ⟨he, g', hw', st⟩ => ⟨he, WSt.keep h2 h3 h4 hw' st⟩
    have HP : Hid (∀ W, WSt V W V.heap.size [] → Calls Tryz.prog 113 #[.pointer (some ⟨V.heap.size, 0, none⟩), .int .u8 1] W fun e w' => e = .returned (.tuple #[]) ∧ WSt V w' V.heap.size [1]) := fun W hW => wst_u8 1 (by decide) hW (by simp)
    generalize (freeB N.ps.length ++ pairsB N.ps) = BS at *
    clear h hv hf hlen hsl hc
    go_enter Tryz.func106, Tryz.ntmps106
    go_wp2_with fail
    rw [← hV]
    clear hV
    refine HN.out.mono ?_
    rintro e W1 ⟨rfl, h1⟩
    have m0 := h1.base.keep n0
    have m1 := h1.base.keep n1
    have m2 := h1.base.keep n2
    go_wp2_with fail
    refine (HI.out _).mono ?_
    rintro e W2 ⟨rfl, s2⟩
    have h2 := h1.same s2
    clear h1 s2 m0 m1 m2
    go_wp2_with fail
    refine (HP.out _ h2).mono ?_
    rintro e W3 ⟨rfl, h3⟩
    have m0 := h3.base.keep n0
    clear h2
    go_wp2_with fail
    refine (HE.out _ h3).mono ?_
    rintro e W4 ⟨rfl, h4⟩
    have HSt : Hid (Calls Tryz.prog 116 #[.pointer (some ⟨V.heap.size, 0, none⟩)] W4 fun e w' => e = .returned (.string ⟨([1] ++ BS).toArray⟩) ∧ W4 = w') := wst_string h4
    have hb4 := h4.base
    clear h3 h4
    go_wp2_with fail
    refine HSt.out.mono ?_
    rintro e W5 ⟨rfl, hW5⟩
    rw [← hW5]
    clear hW5
    go_wp2_with fail
    go_ret
    exact ⟨rfl, sx.trans hb4⟩
  · have hlf' : leafB N = false := by simpa using hlf
    have hf : formN true q N = 2 :: (freeB N.ks.length ++ kidsB true q true N.ss N.ks) := by unfold formN; rw [if_neg hlf]
    have hsl := hsl hlf'
    rw [hlf'] at HI
    rw [hf] at hlen ⊢
    have HP : Hid (∀ W, WSt V W V.heap.size [] → Calls Tryz.prog 113 #[.pointer (some ⟨V.heap.size, 0, none⟩), .int .u8 2] W fun e w' => e = .returned (.tuple #[]) ∧ WSt V w' V.heap.size [2]) := fun W hW => wst_u8 2 (by decide) hW (by simp)
    have HE : Hid (∀ W fb sb, KSt V W V.heap.size [2] fb sb true (.slice r.sa N.ss.length r.cs) → Calls Tryz.prog 117 #[.pointer (some ⟨V.heap.size, 0, none⟩), .slice r.ka N.ks.length r.ck, .func (.func 118) #[] #[.pointer (some ⟨fb, 0, none⟩), .pointer (some ⟨sb, 0, none⟩), .pointer (some ⟨w.heap.size, 0, none⟩), .pointer (some ⟨w.heap.size + 1, 0, none⟩)]] W fun e w' => e = .returned (.tuple #[]) ∧ WSt V w' V.heap.size ([2] ++ (freeB N.ks.length ++ kidsB true q true N.ss N.ks))) := by
      intro W fb sb hW
      simp only [List.length_cons, List.length_append] at hlen
      refine eachKid_page hv.hs hv.hk hv.ok hsl hc.cs hc.cm ?_ hW (by simp only [List.length_cons, List.length_nil]; omega) x0 a1
      have := kidsB_many (pages := true) (q := q) N.ss N.ks (by omega)
      omega
    have HKS : Hid (∀ W, WSt V W V.heap.size [2] → KSt V ((W.alloc (.cells #[.slice r.sa N.ss.length r.cs] 25)).alloc (.cells #[.bool true] 4)) V.heap.size [2] (W.heap.size + 1) W.heap.size true (.slice r.sa N.ss.length r.cs)) := fun W hW => kst_new hW _
    generalize (freeB N.ks.length ++ kidsB true q true N.ss N.ks) = BS at *
    clear h hv hf hlen hsl hc hlf hlf'
    go_enter Tryz.func106, Tryz.ntmps106
    go_wp2_with fail
    rw [← hV]
    clear hV
    refine HN.out.mono ?_
    rintro e W1 ⟨rfl, h1⟩
    have m0 := h1.base.keep n0
    have m1 := h1.base.keep n1
    have m2 := h1.base.keep n2
    go_wp2_with fail
    refine (HI.out _).mono ?_
    rintro e W2 ⟨rfl, s2⟩
    have h2 := h1.same s2
    clear h1 s2 m0 m1 m2
    go_wp2_with fail
    refine (HP.out _ h2).mono ?_
    rintro e W3 ⟨rfl, h3⟩
    have m1 := h3.base.keep n1
    have hk3 := HKS.out _ h3
    have m2 := hk3.base.keep n2
    have hlt3 := h3.base.size
    clear h2
    go_wp2_with fail
    refine (HE.out _ _ _ hk3).mono ?_
    rintro e W4 ⟨rfl, h4⟩
    have HSt : Hid (Calls Tryz.prog 116 #[.pointer (some ⟨V.heap.size, 0, none⟩)] W4 fun e w' => e = .returned (.string ⟨([2] ++ BS).toArray⟩) ∧ W4 = w') := wst_string h4
    have hb4 := h4.base
    clear h3 h4 hk3 m1 m2
    go_wp2_with fail
    refine HSt.out.mono ?_
    rintro e W5 ⟨rfl, hW5⟩
    rw [← hW5]
    clear hW5
    go_wp2_with fail
    go_ret
    exact ⟨rfl, sx.trans hb4⟩
set_option maxRecDepth 100000 in
set_option maxHeartbeats 1000000 in
theorem bytes_plain {p q : Int} {r : Nr} {N : Nd} (w : World) (h : NdAt w r N) (hc : NdCap r N) (hsl : leafB N = false → N.ss.length + 1 = N.ks.length) (hlen : (formN false q N).length ≤ 50000000000) :
    Calls Tryz.prog 106 #[plainV, frameV p q, ndV r N] w fun e w' => e = .returned (.string ⟨(formN false q N).toArray⟩) ∧ Same w w' := by
  obtain ⟨V, hV⟩ : ∃ V, V = ((w.alloc (.cells #[.func (.func 122) #[] #[], .func (.func 124) #[] #[]] 129)).alloc (.cells #[.int .i64 p, .int .i64 q] 23)).alloc (.cells #[.slice r.pa N.ps.length r.cp, .slice r.sa N.ss.length r.cs, .slice r.ka N.ks.length r.ck] 28) := ⟨_, rfl⟩
  have sx : Same w V := by rw [hV]; exact (((Fr.refl _ w).alloc _).alloc _).alloc _
  have x0 : V.cell? ⟨w.heap.size, 0, none⟩ = some (.func (.func 122) #[] #[]) := by rw [hV, cell_of_row _ _ _ _ _ _ (heap3 w _ _ _).1]; rfl
  have a1 : V.cell? ⟨w.heap.size + 1, 1, none⟩ = some (.int .i64 q) := by rw [hV, cell_of_row _ _ _ _ _ _ (heap3 w _ _ _).2.1]; rfl
  have n0 : V.cell? ⟨w.heap.size + 1 + 1, 0, none⟩ = some (.slice r.pa N.ps.length r.cp) := by rw [hV, cell_of_row _ _ _ _ _ _ (heap3 w _ _ _).2.2]; rfl
  have n1 : V.cell? ⟨w.heap.size + 1 + 1, 1, none⟩ = some (.slice r.sa N.ss.length r.cs) := by rw [hV, cell_of_row _ _ _ _ _ _ (heap3 w _ _ _).2.2]; rfl
  have n2 : V.cell? ⟨w.heap.size + 1 + 1, 2, none⟩ = some (.slice r.ka N.ks.length r.ck) := by rw [hV, cell_of_row _ _ _ _ _ _ (heap3 w _ _ _).2.2]; rfl
  have hv := h.same sx
  have HN : Hid (Calls Tryz.prog 112 #[] V fun e w' => e = .returned (.pointer (some ⟨V.heap.size, 0, none⟩)) ∧ WSt V w' V.heap.size []) := new_wst V
  have HI : Hid (∀ W, Calls Tryz.prog 52 #[ndV r N] W fun e w' => e = .returned (.bool (leafB N)) ∧ Same W w') := fun W => isLeaf_calls W
  by_cases hlf : leafB N = true
  · have hf : formN false q N = 1 :: (freeB N.ps.length ++ pairsB N.ps) := by unfold formN; rw [if_pos hlf]
    rw [hlf] at HI
    rw [hf] at hlen ⊢
    have HE : Hid (∀ W, WSt V W V.heap.size [1] → Calls Tryz.prog 114 #[.pointer (some ⟨V.heap.size, 0, none⟩), .slice r.pa N.ps.length r.cp, .func (.func 115) #[] #[]] W fun e w' => e = .returned (.tuple #[]) ∧ WSt V w' V.heap.size ([1] ++ (freeB N.ps.length ++ pairsB N.ps))) := by
      intro W hW
      obtain ⟨g, h1, h2, h3, h4⟩ := hW
      have hp := hv.hp.same h4
      have hlt : N.ps ≠ [] → r.pb < V.heap.size := fun e => (hv.hp.place e).2
      simp only [List.length_cons, List.length_append] at hlen
      have hpl : N.ps.length ≤ (pairsB N.ps).length := by
        clear hlen hf HI hlf hv h hp hlt n0 n1 n2
        induction N.ps with
        | nil => simp
        | cons x l ih =>
          have e : pairsB (x :: l) = pairB x ++ pairsB l := rfl
          have h1 : 1 ≤ (pairB x).length := by
            unfold pairB textB
            have : 1 ≤ (freeB x.1.size).length := by
              unfold freeB freeF; split <;> simp
            simp only [List.length_append]; omega
          rw [e, List.length_append, List.length_cons]; omega
      exact (eachPair_calls N.ps r.pa r.pb r.po r.cp hp (fun e => by have := hlt e; omega) (fun e e2 => by have := h3 _ e2.symm; have := hlt e; omega) (by omega) h1 (by simp only [List.length_cons, List.length_nil]; omega)).mono fun e w' ⟨he, g', hw', st⟩ => ⟨he, WSt.keep h2 h3 h4 hw' st⟩
    have HP : Hid (∀ W, WSt V W V.heap.size [] → Calls Tryz.prog 113 #[.pointer (some ⟨V.heap.size, 0, none⟩), .int .u8 1] W fun e w' => e = .returned (.tuple #[]) ∧ WSt V w' V.heap.size [1]) := fun W hW => wst_u8 1 (by decide) hW (by simp)
    generalize (freeB N.ps.length ++ pairsB N.ps) = BS at *
    clear h hv hf hlen hsl hc
    go_enter Tryz.func106, Tryz.ntmps106
    go_wp2_with fail
    rw [← hV]
    clear hV
    refine HN.out.mono ?_
    rintro e W1 ⟨rfl, h1⟩
    have m0 := h1.base.keep n0
    have m1 := h1.base.keep n1
    have m2 := h1.base.keep n2
    go_wp2_with fail
    refine (HI.out _).mono ?_
    rintro e W2 ⟨rfl, s2⟩
    have h2 := h1.same s2
    clear h1 s2 m0 m1 m2
    go_wp2_with fail
    refine (HP.out _ h2).mono ?_
    rintro e W3 ⟨rfl, h3⟩
    have m0 := h3.base.keep n0
    clear h2
    go_wp2_with fail
    refine (HE.out _ h3).mono ?_
    rintro e W4 ⟨rfl, h4⟩
    have HSt : Hid (Calls Tryz.prog 116 #[.pointer (some ⟨V.heap.size, 0, none⟩)] W4 fun e w' => e = .returned (.string ⟨([1] ++ BS).toArray⟩) ∧ W4 = w') := wst_string h4
    have hb4 := h4.base
    clear h3 h4
    go_wp2_with fail
    refine HSt.out.mono ?_
    rintro e W5 ⟨rfl, hW5⟩
    rw [← hW5]
    clear hW5
    go_wp2_with fail
    go_ret
    exact ⟨rfl, sx.trans hb4⟩
  · have hlf' : leafB N = false := by simpa using hlf
    have hf : formN false q N = 2 :: (freeB N.ks.length ++ kidsB false q true N.ss N.ks) := by unfold formN; rw [if_neg hlf]
    have hsl := hsl hlf'
    rw [hlf'] at HI
    rw [hf] at hlen ⊢
    have HP : Hid (∀ W, WSt V W V.heap.size [] → Calls Tryz.prog 113 #[.pointer (some ⟨V.heap.size, 0, none⟩), .int .u8 2] W fun e w' => e = .returned (.tuple #[]) ∧ WSt V w' V.heap.size [2]) := fun W hW => wst_u8 2 (by decide) hW (by simp)
    have HE : Hid (∀ W fb sb, KSt V W V.heap.size [2] fb sb true (.slice r.sa N.ss.length r.cs) → Calls Tryz.prog 117 #[.pointer (some ⟨V.heap.size, 0, none⟩), .slice r.ka N.ks.length r.ck, .func (.func 118) #[] #[.pointer (some ⟨fb, 0, none⟩), .pointer (some ⟨sb, 0, none⟩), .pointer (some ⟨w.heap.size, 0, none⟩), .pointer (some ⟨w.heap.size + 1, 0, none⟩)]] W fun e w' => e = .returned (.tuple #[]) ∧ WSt V w' V.heap.size ([2] ++ (freeB N.ks.length ++ kidsB false q true N.ss N.ks))) := by
      intro W fb sb hW
      simp only [List.length_cons, List.length_append] at hlen
      refine eachKid_plain hv.hs hv.hk hv.ok hsl hc.cs hc.cm ?_ hW (by simp only [List.length_cons, List.length_nil]; omega) x0 a1
      have := kidsB_many (pages := false) (q := q) N.ss N.ks (by omega)
      omega
    have HKS : Hid (∀ W, WSt V W V.heap.size [2] → KSt V ((W.alloc (.cells #[.slice r.sa N.ss.length r.cs] 25)).alloc (.cells #[.bool true] 4)) V.heap.size [2] (W.heap.size + 1) W.heap.size true (.slice r.sa N.ss.length r.cs)) := fun W hW => kst_new hW _
    generalize (freeB N.ks.length ++ kidsB false q true N.ss N.ks) = BS at *
    clear h hv hf hlen hsl hc hlf hlf'
    go_enter Tryz.func106, Tryz.ntmps106
    go_wp2_with fail
    rw [← hV]
    clear hV
    refine HN.out.mono ?_
    rintro e W1 ⟨rfl, h1⟩
    have m0 := h1.base.keep n0
    have m1 := h1.base.keep n1
    have m2 := h1.base.keep n2
    go_wp2_with fail
    refine (HI.out _).mono ?_
    rintro e W2 ⟨rfl, s2⟩
    have h2 := h1.same s2
    clear h1 s2 m0 m1 m2
    go_wp2_with fail
    refine (HP.out _ h2).mono ?_
    rintro e W3 ⟨rfl, h3⟩
    have m1 := h3.base.keep n1
    have hk3 := HKS.out _ h3
    have m2 := hk3.base.keep n2
    have hlt3 := h3.base.size
    clear h2
    go_wp2_with fail
    refine (HE.out _ _ _ hk3).mono ?_
    rintro e W4 ⟨rfl, h4⟩
    have HSt : Hid (Calls Tryz.prog 116 #[.pointer (some ⟨V.heap.size, 0, none⟩)] W4 fun e w' => e = .returned (.string ⟨([2] ++ BS).toArray⟩) ∧ W4 = w') := wst_string h4
    have hb4 := h4.base
    clear h3 h4 hk3 m1 m2
    go_wp2_with fail
    refine HSt.out.mono ?_
    rintro e W5 ⟨rfl, hW5⟩
    rw [← hW5]
    clear hW5
    go_wp2_with fail
    go_ret
    exact ⟨rfl, sx.trans hb4⟩

set_option maxRecDepth 100000 in
set_option maxHeartbeats 1000000 in
theorem size_core {p q : Int} {pa sa ka : Option Addr} {np cp ns cs nk ck : Nat} {S : ByteArray} (w : World)
    (HPF : Hid (∀ W, Same w W → Calls Tryz.prog 105 #[] W fun e w' => e = .returned (pageV) ∧ Same W w'))
    (HB : Hid (∀ W, Same w W → Calls Tryz.prog 106 #[pageV, frameV p q, nodeV pa np cp sa ns cs ka nk ck] W fun e w' => e = .returned (.string S) ∧ Same W w')) :
    Calls Tryz.prog 88 #[frameV p q, nodeV pa np cp sa ns cs ka nk ck] w fun e w' => e = .returned (.int .i64 S.size) ∧ Same w w' := by
  obtain ⟨V, hV⟩ : ∃ V, V = ((w.alloc (.cells #[.int .i64 p, .int .i64 q] 23)).alloc (.cells #[.slice pa np cp, .slice sa ns cs, .slice ka nk ck] 28)) := ⟨_, rfl⟩
  have sx : Same w V := by rw [hV]; exact ((Fr.refl _ w).alloc _).alloc _
  have c0 : V.cell? ⟨w.heap.size, 0, none⟩ = some (.int .i64 p) := by rw [hV]; simp
  have c1 : V.cell? ⟨w.heap.size, 1, none⟩ = some (.int .i64 q) := by rw [hV]; simp
  have n0 : V.cell? ⟨w.heap.size + 1, 0, none⟩ = some (.slice pa np cp) := by rw [hV]; simp
  have n1 : V.cell? ⟨w.heap.size + 1, 1, none⟩ = some (.slice sa ns cs) := by rw [hV]; simp
  have n2 : V.cell? ⟨w.heap.size + 1, 2, none⟩ = some (.slice ka nk ck) := by rw [hV]; simp
  go_enter Tryz.func88, Tryz.ntmps88
  go_wp2_with fail
  rw [← hV]
  clear hV
  have d0 : Same V V.drew := Fr.drew (Fr.refl _ V)
  go_region_held3 (fun W => W.cell? ⟨w.heap.size, 0, none⟩ = some (.int .i64 p) ∧ W.cell? ⟨w.heap.size, 1, none⟩ = some (.int .i64 q) ∧ W.cell? ⟨w.heap.size + 1, 0, none⟩ = some (.slice pa np cp) ∧ W.cell? ⟨w.heap.size + 1, 1, none⟩ = some (.slice sa ns cs) ∧ W.cell? ⟨w.heap.size + 1, 2, none⟩ = some (.slice ka nk ck)) (first | exact ⟨t2.keep c0, t2.keep c1, t2.keep n0, t2.keep n1, t2.keep n2⟩ | exact ⟨t1.keep c0, t1.keep c1, t1.keep n0, t1.keep n1, t1.keep n2⟩ | exact ⟨c0, c1, n0, n1, n2⟩)
    (first | (have hh := t1; go_at_call 106; refine (HB.out _ (sx.trans t1)).mono ?_; rintro e Z1 ⟨rfl, hs⟩; have t2 := Same.trans t1 hs; clear hs) | (go_at_call 105; refine (HPF.out _ (sx.trans d0)).mono ?_; rintro e Z0 ⟨rfl, hs⟩; have t1 := Same.trans d0 hs; clear hs))
  go_wp2_with fail
  go_ret
  exact ⟨rfl, sx.trans t2⟩

set_option maxRecDepth 100000 in
set_option maxHeartbeats 1000000 in
theorem bigSize_core {p q : Int} {pa sa ka : Option Addr} {np cp ns cs nk ck : Nat} {E : Int} {n : Nat} (w : World)
    (HC : Hid (∀ W, Same w W → Calls Tryz.prog 32 #[frameV p q, nodeV pa np cp sa ns cs ka nk ck] W fun e w' => e = .returned (.int .i64 E) ∧ Same W w'))
    (HS : E = 0 → ∀ W, Same w W → Calls Tryz.prog 88 #[frameV p q, nodeV pa np cp sa ns cs ka nk ck] W fun e w' => e = .returned (.int .i64 n) ∧ Same W w') :
    Calls Tryz.prog 66 #[frameV p q, nodeV pa np cp sa ns cs ka nk ck] w fun e w' => e = .returned (.int .i64 (if E = 0 then (n : Int) else 0)) ∧ Same w w' := by
  obtain ⟨V, hV⟩ : ∃ V, V = ((w.alloc (.cells #[.int .i64 p, .int .i64 q] 23)).alloc (.cells #[.slice pa np cp, .slice sa ns cs, .slice ka nk ck] 28)) := ⟨_, rfl⟩
  have sx : Same w V := by rw [hV]; exact ((Fr.refl _ w).alloc _).alloc _
  have c0 : V.cell? ⟨w.heap.size, 0, none⟩ = some (.int .i64 p) := by rw [hV]; simp
  have c1 : V.cell? ⟨w.heap.size, 1, none⟩ = some (.int .i64 q) := by rw [hV]; simp
  have n0 : V.cell? ⟨w.heap.size + 1, 0, none⟩ = some (.slice pa np cp) := by rw [hV]; simp
  have n1 : V.cell? ⟨w.heap.size + 1, 1, none⟩ = some (.slice sa ns cs) := by rw [hV]; simp
  have n2 : V.cell? ⟨w.heap.size + 1, 2, none⟩ = some (.slice ka nk ck) := by rw [hV]; simp
  by_cases hE : E = 0
  · have HS2 : Hid (∀ W, Same w W → Calls Tryz.prog 88 #[frameV p q, nodeV pa np cp sa ns cs ka nk ck] W fun e w' => e = .returned (.int .i64 n) ∧ Same W w') := HS hE
    subst hE
    clear HS
    go_enter Tryz.func66, Tryz.ntmps66
    go_wp2_with fail
    rw [← hV]
    clear hV
    refine (HC.out _ sx).mono ?_
    rintro e W1 ⟨rfl, s1⟩
    have t1 := sx.trans s1
    have c0 := s1.keep c0
    have c1 := s1.keep c1
    have n0 := s1.keep n0
    have n1 := s1.keep n1
    have n2 := s1.keep n2
    clear s1
    go_wp2_with fail
    refine (HS2.out _ t1).mono ?_
    rintro e W2 ⟨rfl, s2⟩
    go_wp2_with fail
    go_ret
    exact ⟨rfl, t1.trans s2⟩
  · rw [if_neg hE]
    have hne : (E != 0) = true := by rw [bne_iff_ne]; exact hE
    clear hE HS
    go_enter Tryz.func66, Tryz.ntmps66
    go_wp2_with fail
    rw [← hV]
    clear hV
    refine (HC.out _ sx).mono ?_
    rintro e W1 ⟨rfl, s1⟩
    go_wp2_with fail
    go_ret
    exact ⟨rfl, sx.trans s1⟩

theorem shape_sep {p q : Int} {N : Nd} (h : shapeP p q N = true) (hl : leafB N = false) : N.ss.length + 1 = N.ks.length := by
  unfold shapeP branchP at h
  rw [hl] at h
  simp only [Bool.false_eq_true, if_false, Bool.and_eq_true, Bool.not_eq_true', Bool.or_eq_false_iff, decide_eq_false_iff_not] at h
  omega
/-- What the calls answer. -/
def sizeV (p q : Int) (N : Nd) : Int := if chkN p q N = 0 then ((formN true q N).length : Int) else 0
theorem size_arr (l : List UInt8) : (ByteArray.mk l.toArray).size = l.length := by rw [← bytes_length, List.toList_toArray]
/-- A node that is small enough for all that is asked of it. -/
structure NdOk (w : World) (r : Nr) (q : Int) (N : Nd) : Prop where
  at_ : NdAt w r N
  cap : NdCap r N
  len1 : (formN true q N).length ≤ 50000000000
  len0 : (formN false q N).length ≤ 50000000000
theorem NdOk.same {w w' : World} {r : Nr} {q : Int} {N : Nd} (h : NdOk w r q N) (s : Same w w') : NdOk w' r q N := ⟨h.at_.same s, h.cap, h.len1, h.len0⟩
theorem lsize_calls {p q : Int} {r : Nr} {N : Nd} (w : World) (h : NdOk w r q N) (hs : leafB N = false → N.ss.length + 1 = N.ks.length) :
    Calls Tryz.prog 88 #[frameV p q, ndV r N] w fun e w' => e = .returned (.int .i64 ((formN true q N).length : Int)) ∧ Same w w' := by
  have := size_core (p := p) (q := q) w (fun W _ => pageForm_calls W) (fun W s => bytes_page W (h.at_.same s) h.cap hs h.len1)
  rw [size_arr] at this
  exact this
theorem size_calls {p q : Int} {r : Nr} {N : Nd} (w : World) (h : NdOk w r q N) :
    Calls Tryz.prog 66 #[frameV p q, ndV r N] w fun e w' => e = .returned (.int .i64 (sizeV p q N)) ∧ Same w w' :=
  bigSize_core w (fun W s => check_calls p q W (h.at_.same s)) (fun hE W s => lsize_calls W (h.same s) (fun hl => shape_sep (chk_zero hE).2 hl))

theorem one_str (W : World) (c : Nat) (hc : c < 256) : (convert 112 9 (.slice (some ⟨W.heap.size, 0, none⟩) 1 1)).run Tryz.prog (W.alloc (.cells #[.int .u8 c] 5)) = .ok (.string ⟨#[UInt8.ofNat c]⟩) (W.alloc (.cells #[.int .u8 c] 5)) := by
  have hown : Owns (W.alloc (.cells #[.int .u8 c] 5)) (.slice (some ⟨W.heap.size, 0, none⟩) 1 1) [UInt8.ofNat c] := by
    refine ⟨rfl, Or.inr ⟨W.heap.size, 1, #[.int .u8 c], rfl, Nat.zero_le _, heap_alloc_new W _, Nat.le_refl _, by decide, rfl, ?_⟩⟩
    simp [bcells]
    omega
  exact owns_string (P := Tryz.prog) hown 112 9 Tryz.underlying112 Tryz.underlying5 Tryz.underlying9

theorem one_strD (W : World) (c : Nat) (hc : c < 256) : (convert 112 9 (.slice (some ⟨W.heap.size, 0, none⟩) 1 1)).run Tryz.prog (W.alloc (.cells #[.int .u8 c] 5)).drew = .ok (.string ⟨#[UInt8.ofNat c]⟩) (W.alloc (.cells #[.int .u8 c] 5)).drew := by
  have hown : Owns (W.alloc (.cells #[.int .u8 c] 5)).drew (.slice (some ⟨W.heap.size, 0, none⟩) 1 1) [UInt8.ofNat c] := by
    refine ⟨rfl, Or.inr ⟨W.heap.size, 1, #[.int .u8 c], rfl, Nat.zero_le _, heap_alloc_new W _, Nat.le_refl _, by decide, rfl, ?_⟩⟩
    simp [bcells]
    omega
  exact owns_string (P := Tryz.prog) hown 112 9 Tryz.underlying112 Tryz.underlying5 Tryz.underlying9
theorem one_strA (W : World) (c : Nat) (hc : c < 256) : (convert 112 9 (.slice (some ⟨W.heap.size, 0, none⟩) 1 1)).run Tryz.prog (W.drew.alloc (.cells #[.int .u8 c] 5)) = .ok (.string ⟨#[UInt8.ofNat c]⟩) (W.drew.alloc (.cells #[.int .u8 c] 5)) := one_str W.drew c hc

theorem one_strS {W W4 : World} {c : Nat} (hc : c < 256) (s : Same (W.alloc (.cells #[.int .u8 c] 5)).drew W4) : (convert 112 9 (.slice (some ⟨W.heap.size, 0, none⟩) 1 1)).run Tryz.prog W4 = .ok (.string ⟨#[UInt8.ofNat c]⟩) W4 := by
  have hown : Owns (W.alloc (.cells #[.int .u8 c] 5)).drew (.slice (some ⟨W.heap.size, 0, none⟩) 1 1) [UInt8.ofNat c] := by
    refine ⟨rfl, Or.inr ⟨W.heap.size, 1, #[.int .u8 c], rfl, Nat.zero_le _, heap_alloc_new W _, Nat.le_refl _, by decide, rfl, ?_⟩⟩
    simp [bcells]
    omega
  exact owns_string (P := Tryz.prog) (own_frame hown s (fun _ _ f => f)) 112 9 Tryz.underlying112 Tryz.underlying5 Tryz.underlying9

set_option maxRecDepth 100000 in
set_option maxHeartbeats 1000000 in
theorem xfree_calls (k : Nat) (hkk : k ≤ 100) : ∀ (n : Nat) (w : World), n < 18446744073709551616 → n < 128 ^ (k + 1) →
    Calls Tryz.prog 70 #[.int .u64 n] w fun e w' => e = .returned (.string ⟨(freeF k n).toArray⟩) ∧ Same w w' := by
  induction k with
  | zero =>
    intro n w hn hk
    have h1 : n < 128 := by simpa using hk
    have hc := fun W => one_str W n (by omega)
    go_enter Tryz.func70, Tryz.ntmps70
    go_wp2_with fail
    go_ret
    exact ⟨rfl, (Fr.refl _ w).alloc _⟩
  | succ k ih =>
    intro n w hn hk
    by_cases h1 : n < 128
    · have hc := fun W => one_str W n (by omega)
      have e : freeF (k + 1) n = [UInt8.ofNat n] := by rw [freeF, if_pos h1]
      rw [e]
      clear ih
      go_enter Tryz.func70, Tryz.ntmps70
      go_wp2_with fail
      go_ret
      exact ⟨rfl, (Fr.refl _ w).alloc _⟩
    · obtain ⟨c, hcn⟩ : ∃ c, c = n % 128 + 128 := ⟨_, rfl⟩
      have e : freeF (k + 1) n = UInt8.ofNat c :: freeF k (n / 128) := by rw [freeF, if_neg h1, hcn]
      have hclt : c < 256 := by omega
      have hc := fun W => one_str W c hclt
      have hcD := fun W => one_strD W c (by omega)
      have hcA := fun W => one_strA W c (by omega)
      have hw1 : IntKind.u8.wrap (IntKind.u8.wrap ((n : Int).tmod 128) + 128) = (c : Int) := by
        rw [IntKind.wrap_u8, IntKind.wrap_u8, Int.tmod_eq_emod_of_nonneg (by omega)]; omega
      have hw2 : IntKind.u64.wrap ((n : Int) / 128) = (n : Int) / 128 := by rw [IntKind.wrap_u64]; omega
      have HX : Hid (∀ W, Calls Tryz.prog 70 #[.int .u64 ((n : Int) / 128)] W fun e w' => e = .returned (.string ⟨(freeF k (n / 128)).toArray⟩) ∧ Same W w') := fun W => by
        have := ih (by omega) (n / 128) W (by omega) (by rw [Nat.pow_succ] at hk; omega)
        rwa [show ((n / 128 : Nat) : Int) = (n : Int) / 128 from by omega] at this
      obtain ⟨T, hT⟩ : ∃ T : ByteArray, T = ⟨(freeF k (n / 128)).toArray⟩ := ⟨_, rfl⟩
      have hj : (⟨#[UInt8.ofNat c]⟩ : ByteArray) ++ T = ⟨(freeF (k + 1) n).toArray⟩ := by
        rw [hT, e]; apply ByteArray.ext; simp
      have hTs : T.size ≤ k + 1 := by rw [hT]; show ((freeF k (n / 128)).toArray).size ≤ _; have := freeF_length k (n / 128); simpa using this
      have hadd := fun W => run_string_add_sum (P := Tryz.prog) W (⟨#[UInt8.ofNat c]⟩ : ByteArray) T (by have : (⟨#[UInt8.ofNat c]⟩ : ByteArray).size = 1 := rfl; omega)
      rw [← hj]
      rw [← hT] at HX
      clear ih e hT hj hcn
      go_enter Tryz.func70, Tryz.ntmps70
      go_wp2_with fail
      go_region_with (first | (go_at_call 70; refine (HX.out _).mono ?_; rintro e W4 ⟨rfl, s4⟩; try have hc4 := one_strS hclt s4))
      all_goals go_wp2_with fail
      all_goals go_ret
      all_goals first
        | exact ⟨rfl, Fr.trans ((Fr.alloc (Fr.refl _ w) _).drew) s4 (fun _ _ f => f)⟩
        | exact ⟨rfl, (Fr.trans (Fr.drew (Fr.refl _ w)) s4 (fun _ _ f => f)).alloc _⟩

theorem xfreeB_calls (n : Nat) (w : World) (hn : n < 18446744073709551616) :
    Calls Tryz.prog 70 #[.int .u64 n] w fun e w' => e = .returned (.string ⟨(freeB n).toArray⟩) ∧ Same w w' :=
  xfree_calls 9 (by omega) n w hn (by have : (128 : Nat) ^ (9 + 1) = 1180591620717411303424 := by decide
                                      omega)

end Go.Proofs.YtlhenipmepfneaaGreat
