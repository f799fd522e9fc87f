/- Picked: EE, NT, ED, ES, YD, YL, YB, P0. -/
import Derived.WalkKit
import Derived.WalkSpells
import Derived.WalkLawsBesides
import Derived.Deep.AppendLies
import Derived.Lib.AppendStr
import Derived.Laws.IdiomStrings
import Derived.Test.YtljlkcmjbjnihaaProg
import Derived.Handy
import Derived.Laws.BitsAllLaws
import Derived.Deep.DeepMust
import Derived.Deep.RegionLaw
import Derived.Deep.DrawnRows
import Derived.Lib.Strings
import Derived.Deep.QuietTactic
import Derived.BigQuiet
import Derived.Deep.MidRow
import Derived.Laws.ResultCell
import Derived.Laws.CopyOwn
import Derived.Laws.Rows
import Derived.ChangeKeysEq
import Derived.BigFrame
import Derived.Laws.DeepNot64
import Derived.Lib.LazyBuf
import Derived.Deep.RegionHeld3
import Derived.Deep.LoopGhost
import Derived.Deep.OwnRows
import Derived.Test.YtljlkcmjbjnihaaChecked
import Derived.ProofKit
import Derived.Laws.AppendOwn
import Derived.Lib.AppendZerosOnto
import Derived.Laws.AppendOwnNone
import Derived.Shelf.Spec.SlicesGrow
import Derived.Lib.Bytealg
import Derived.WalkMore
import Derived.OwnWalk
import Derived.Lib.BitFns
import Derived.Lib.Small
import Derived.Test.YtljlkcmjbjnihaaRows
import Derived.OpenShut
import Derived.SliceStrings
import Derived.JoinedCond
import Derived.Deep.Slices
import Derived.RegionTactic
import Derived.Deep.RegionWith
import Derived.Laws.Concat
import Derived.RangeFuncNested
import Derived.RangeFuncBound
import Derived.RangeFuncCalls
import Derived.RangeFuncLeaves
import Derived.Shelf.Abstract
import Derived.Shelf.RegionOpen
import Derived.OwnWalkIn
import Derived.TacticsInMore
import Derived.LoopNIn
import Derived.LoopIn
import Derived.Deep.Strs
import Derived.Lib.SmallJoins
import Derived.Lib.AppendZeros
import Derived.Maps.Own
import Derived.Maps.OwnOps
import Derived.Maps.OwnSet
import Derived.RangeFuncSeq
import Derived.Sort.MapsRangeIn
import Derived.Deep.RegionHeld
import Derived.Lib.FrozenHead
namespace Go.Proofs.Ytljlkcmjbjnihaa
open Go.RowKit



/-- Of the blocks that were there those of S alone may have turned; the streams are as they were. -/
structure Fr (S : Nat → Prop) (w w' : World) : Prop where
  os : w'.os = w.os
  tape : w'.tape = w.tape
  output : w'.output = w.output
  size : w.heap.size ≤ w'.heap.size
  block : ∀ k, k < w.heap.size → ¬ S k → w'.heap[k]? = w.heap[k]?

theorem Fr.refl (S : Nat → Prop) (w : World) : Fr S w w := ⟨rfl, rfl, rfl, Nat.le_refl _, fun _ _ _ => rfl⟩
theorem Fr.trans {S T : Nat → Prop} {a b c : World} (h : Fr S a b) (k : Fr T b c) (hT : ∀ i, i < a.heap.size → T i → S i) : Fr S a c :=
  ⟨k.os.trans h.os, k.tape.trans h.tape, k.output.trans h.output, Nat.le_trans h.size k.size, fun i hi hn => (k.block i (Nat.lt_of_lt_of_le hi h.size) (fun t => hn (hT i hi t))).trans (h.block i hi hn)⟩
theorem Fr.mono {S T : Nat → Prop} {a b : World} (h : Fr S a b) (hT : ∀ i, i < a.heap.size → S i → T i) : Fr T a b :=
  ⟨h.os, h.tape, h.output, h.size, fun i hi hn => h.block i hi (fun s => hn (hT i hi s))⟩
theorem Fr.drew {S : Nat → Prop} {a w : World} (h : Fr S a w) : Fr S a w.drew := ⟨h.os, h.tape, h.output, h.size, h.block⟩
theorem Fr.drewN {S : Nat → Prop} {a w : World} (h : Fr S a w) (n : Nat) : Fr S a (w.drewN n) := ⟨h.os, h.tape, h.output, h.size, h.block⟩
theorem Fr.alloc {S : Nat → Prop} {a w : World} (h : Fr S a w) (o : Obj) : Fr S a (w.alloc o) :=
  h.trans (T := S) ⟨rfl, rfl, rfl, by simp, fun k hk _ => Below.heap_alloc _ _ _ (by omega)⟩ (fun _ _ t => t)
theorem Fr.setCell {S : Nat → Prop} {a w : World} (h : Fr S a w) {p : Addr} (hp : p.block < a.heap.size → S p.block) (u : Value) : Fr S a (w.setCell p u) :=
  h.trans (T := fun k => k = p.block) ⟨rfl, rfl, rfl, by simp [World.setCell], fun k _ hn => Below.heap_setCell _ _ _ _ hn⟩ (fun i hi e => by subst e; exact hp hi)
theorem Fr.grown {S : Nat → Prop} {a w w' : World} {row : Option Nat} (h : Fr S a w) (hg : w.grownBy w' row) (hr : ∀ k, row = some k → k < a.heap.size → S k) : Fr S a w' :=
  h.trans (T := fun k => some k = row) ⟨hg.os, hg.tape, hg.output, hg.size, fun k hk hn => hg.block k hk (fun e => hn e)⟩ (fun i hi e => hr i e.symm hi)
theorem Fr.cell {S : Nat → Prop} {w w' : World} (h : Fr S w w') {p : Addr} (hp : p.block < w.heap.size) (hn : ¬ S p.block) : w'.cell? p = w.cell? p := World.cell?_of_block (w := w) (h.block p.block hp hn)
theorem Fr.frozen {S : Nat → Prop} {w w' : World} (h : Fr S w w') {p : Addr} (hp : p.block < w.heap.size) (hn : ¬ S p.block) : w'.frozen? p = w.frozen? p := World.frozen?_of_block (w := w) (h.block p.block hp hn)
theorem lt_of_heap {w : World} {b : Nat} {o : Obj} (h : w.heap[b]? = some o) : b < w.heap.size := by
  rcases Nat.lt_or_ge b w.heap.size with hlt | hge
  · exact hlt
  · rw [Array.getElem?_eq_none hge] at h; cases h

/-- Nothing that was there has turned. -/
abbrev Same (w w' : World) : Prop := Fr (fun _ => False) w w'
theorem Same.trans {w w1 w2 : World} (h : Same w w1) (k : Same w1 w2) : Same w w2 := Fr.trans h k (fun _ _ f => f)
theorem Same.keep {w w' : World} (h : Same w w') {a : Addr} {v : Value} (hc : w.cell? a = some v) : w'.cell? a = some v := (h.cell (World.block_lt_of_cell? _ _ hc) (fun f => f)).trans hc


theorem two_setCell {w : World} {b : Nat} {x y : Value} {t : TypeId} (h : w.heap[b]? = some (.cells #[x, y] t (0, 0))) (v : Value) :
    (w.setCell ⟨b, 1, none⟩ v).heap[b]? = some (.cells #[x, v] t (0, 0)) := by
  simp [World.setCell, Array.getElem?_modify, h]

def bcells (bs : List UInt8) : List Value := bs.map fun b => Value.int .u8 b.toNat
theorem bcells_append (a b : List UInt8) : bcells (a ++ b) = bcells a ++ bcells b := by simp [bcells]
/-- The bytes bs lie in the row that a slice value owns (whatever block). -/
abbrev Owns (w : World) (v : Value) (bs : List UInt8) : Prop := w.ownsRow 0 5 1 v bs.length (bcells bs)

/-- 'string(b)' of a row that is owned. -/
theorem owns_string {P : Program} {w : World} {v : Value} {bs : List UInt8} (h : Owns w v bs) (src dst : TypeId) (hs : P.underlying src = some (.slice 5)) (he : P.underlying 5 = some (.int .u8)) (hd : P.underlying dst = some .string) :
    (convert src dst v).run P w = .ok (.string ⟨bs.toArray⟩) w := by
  rcases h.2 with ⟨hv, h0⟩ | ⟨g, cap, cur, hv, _, hg, hnc, hcm, hcs, htake⟩
  · have : bs = [] := List.eq_nil_of_length_eq_zero h0
    subst this; subst hv
    rw [run_convert_bytes_string w src dst 5 none 0 0 hs he hd]
    simp [Conv.bytesToString]
    rfl
  · subst hv
    refine run_convert_bytes_back w src dst 5 ⟨g, 0, none⟩ cap bs hs he hd ?_
    intro j hj
    refine h.cells (g := g) rfl j _ ?_
    simp [bcells, hj]





theorem setCells_row {w : World} {b : Nat} {t : TypeId} (vs : List Value) (o : Nat) (old : Array Value) (h : w.heap[b]? = some (.cells old t (0, 0))) : ∃ A, (w.setCells b o vs).heap[b]? = some (.cells A t (0, 0)) ∧ A.size = old.size := by
  induction vs generalizing w o old with
  | nil => exact ⟨old, h, rfl⟩
  | cons v vs ih =>
    obtain ⟨A, h1, h2⟩ := ih (o + 1) _ (heap_setCell_same w b o old t v h)
    exact ⟨A, h1, by rw [h2]; simp⟩
theorem setCells_whole {w : World} {b : Nat} {t : TypeId} (vs : List Value) (old : Array Value) (h : w.heap[b]? = some (.cells old t (0, 0))) (hl : old.size = vs.length) (ht : w.there b 0 vs.length) : (w.setCells b 0 vs).heap[b]? = some (.cells vs.toArray t (0, 0)) := by
  obtain ⟨A, h1, h2⟩ := setCells_row vs 0 old h
  have hr := World.rangeAt_setCells_same w b 0 vs ht
  have : A = vs.toArray := by
    apply Array.ext
    · simpa using h2.trans hl
    · intro j hj1 hj2
      have hj3 : j < vs.length := by simpa using hj2
      have := hr j vs[j] (List.getElem?_eq_getElem hj3)
      rw [Nat.zero_add, cell_of_row _ _ _ _ _ _ h1, Array.getElem?_eq_getElem hj1] at this
      injection this with this
  rw [h1, this]
theorem Fr.setCells {S : Nat → Prop} {a : World} {b : Nat} (hb : b < a.heap.size → S b) (vs : List Value) : ∀ (o : Nat) (w : World), Fr S a w → Fr S a (w.setCells b o vs) := by
  induction vs with
  | nil => intro o w h; exact h
  | cons v vs ih => intro o w h; exact ih (o + 1) _ (h.setCell (p := ⟨b, o, none⟩) hb v)
theorem there_row {w : World} {b n : Nat} {t : TypeId} {old : Array Value} (h : w.heap[b]? = some (.cells old t (0, 0))) (hn : n = old.size) : w.there b 0 n := by
  intro j hj
  rw [Nat.zero_add]
  refine ⟨?_, frozen_of_row w b j old t h⟩
  rw [cell_of_row _ _ _ _ _ _ h, Array.getElem?_eq_getElem (by omega)]; rfl


/-- A whole array stored into a block of its own. -/
theorem wpList_store_whole {P : Program} {ops : Array Oper} {rest : List Oper} {op : Oper} {a : Act} {w : World} {Q : Exit → Act → World → Prop} (hgd : op.guard = none) (ty : TypeId) (x y : Operand) (ho : op.op = .store ty x y)
    (b : Nat) (cells old : Array Value) (t : TypeId) (hx : a.eval x = .pointer (some ⟨b, 0, none⟩)) (hy : a.eval y = .agg cells) (hb : w.heap[b]? = some (.cells old t (0, 0))) (hl : old.size = cells.size)
    (hi : (P.info? ty).map (·.size) = some cells.size) (h1 : cells.all (·.oneCell') = true)
    (h : ∀ w', w'.heap[b]? = some (.cells cells t (0, 0)) → Fr (fun k => k = b) w w' → wpList P ops Q rest (a.put op.dst undef) w') : wpList P ops Q (op :: rest) a w := by
  have hth : w.there b 0 cells.size := there_row hb hl.symm
  refine wpList_store_mid hgd ty x y ho b 0 cells hx hy hth hi h1 (h _ ?_ (Fr.setCells (S := fun k => k = b) (fun _ => rfl) _ 0 w (Fr.refl _ w)))
  have := setCells_whole cells.toList old hb (by rw [hl, Array.length_toList]) (by rw [Array.length_toList]; exact hth)
  rwa [Array.toArray_toList] at this

theorem own_cell {W : World} {e : TypeId} {sz g cap n : Nat} {xs : List Value} (h : W.ownsRow 0 e sz (.slice (some ⟨g, 0, none⟩) n cap) n xs) {j : Nat} {u : Value} (hu : xs[j]? = some u) : W.cell? ⟨g, j, none⟩ = some u := by
  obtain ⟨hl, hn | ⟨g2, c2, cur, hv, _, hh, _, _, _, htk⟩⟩ := h
  · exact absurd hn.1 (by simp)
  · injection hv with e1
    injection e1 with e1
    injection e1 with e1
    subst e1
    rw [cell_of_row _ _ _ _ _ _ hh]
    rw [← htk, List.getElem?_take] at hu
    split at hu
    · simpa using hu
    · cases hu
theorem own_some {W : World} {e : TypeId} {sz n cap : Nat} {xs : List Value} {ao : Option Addr} (h : W.ownsRow 0 e sz (.slice ao n cap) n xs) (hn : n ≠ 0) : ∃ g, ao = some ⟨g, 0, none⟩ ∧ g < W.heap.size := by
  obtain ⟨hl, h0 | ⟨g2, c2, cur, hv, _, hh, _⟩⟩ := h
  · exact absurd h0.2 hn
  · injection hv with e1 _ _
    exact ⟨g2, e1, lt_of_heap hh⟩
theorem own_nil {w : World} {base : Nat} {e : TypeId} {sz : Nat} : w.ownsRow base e sz (.slice none 0 0) 0 [] := ⟨by simp, Or.inl ⟨rfl, rfl⟩⟩
theorem own_shape {w : World} {base : Nat} {e : TypeId} {sz n : Nat} {v : Value} {xs : List Value} (h : w.ownsRow base e sz v n xs) : ∃ ao c, v = .slice ao n c := by
  obtain ⟨_, ⟨rfl, rfl⟩ | ⟨g, c, _, rfl, _⟩⟩ := h
  · exact ⟨none, 0, rfl⟩
  · exact ⟨_, c, rfl⟩
theorem own_base {w : World} {base b2 : Nat} {e : TypeId} {sz n : Nat} {v : Value} {xs : List Value} (h : w.ownsRow base e sz v n xs) (hb : b2 ≤ base) : w.ownsRow b2 e sz v n xs := by
  obtain ⟨h1, h2⟩ := h
  refine ⟨h1, ?_⟩
  rcases h2 with h2 | ⟨g, c, cur, hv, hg, r⟩
  · exact Or.inl h2
  · exact Or.inr ⟨g, c, cur, hv, by omega, r⟩
theorem own_frameB {w w' : World} {base : Nat} {e : TypeId} {sz n : Nat} {v : Value} {xs : List Value} {S : Nat → Prop} (h : w.ownsRow base e sz v n xs) (hf : Fr S w w') (hn : ∀ k, v.ownBlock = some k → ¬ S k) : w'.ownsRow base e sz v n xs := by
  obtain ⟨h1, h2⟩ := h
  refine ⟨h1, ?_⟩
  rcases h2 with h2 | ⟨g, c, cur, hv, hg, hh, r⟩
  · exact Or.inl h2
  · refine Or.inr ⟨g, c, cur, hv, hg, ?_, r⟩
    rw [hf.block g (lt_of_heap hh) (hn g (by rw [hv]; rfl))]; exact hh
theorem own_ge {w : World} {base : Nat} {e : TypeId} {sz n c : Nat} {a : Addr} {xs : List Value} (h : w.ownsRow base e sz (.slice (some a) n c) n xs) : base ≤ a.block ∧ a.block < w.heap.size := by
  obtain ⟨_, ⟨h2, _⟩ | ⟨g, c, cur, hv, hg, hh, _⟩⟩ := h
  · cases h2
  · injection hv with e1
    injection e1 with e1
    rw [e1]; exact ⟨hg, lt_of_heap hh⟩
/-- A slice that is handed in: where it lies, how long it is, its cells. -/
structure Part where
  ao : Option Addr
  n : Nat
  c : Nat
  cells : List Value
structure PartOk (w : World) (sz : Nat) (x : Part) : Prop where
  len : x.cells.length = x.n * sz
  none : x.ao = none → x.n = 0 ∧ x.c = 0
  at_ : ∀ a, x.ao = some a → ∀ j u, x.cells[j]? = some u → w.cell? (a.add j) = some u
  one : ∀ u ∈ x.cells, u.oneCell' = true
theorem PartOk.same {w w' : World} {sz : Nat} {x : Part} (h : PartOk w sz x) (s : Same w w') : PartOk w' sz x := ⟨h.len, h.none, fun a ha j u hj => s.keep (h.at_ a ha j u hj), h.one⟩
theorem results_row_tmp2 {P : Program} {fn : Func} {p u u2 : Tmp} {ty : TypeId} (h : fn.results = #[.cell p ty, .tmp u, .tmp u2]) (tmps : Array Value) (w : World) (g : Nat) (t : TypeId) (cs : Array Value) (fr : Nat × Nat) (d : TypeDesc)
    (hp : tmps.getD p undef = .pointer (some ⟨g, 0, none⟩)) (hg : w.heap[g]? = some (.cells cs t fr))
    (hu : P.underlying ty = some d) (hd : (match d with | .struct _ | .array _ _ => true | _ => false) = true) (hi : (P.info? ty).map (·.size) = some cs.size) :
    (results fn tmps).run P w = .ok (.tuple #[.agg cs, tmps.getD u undef, tmps.getD u2 undef]) w := by
  have hp' : tmps[p]?.getD undef = .pointer (some ⟨g, 0, none⟩) := by simpa using hp
  simp [results, h, hp', asAddr, run_loadVar_row w g t ty cs fr d hg hu hd hi]

theorem results_row_one {P : Program} {fn : Func} {p : Tmp} {ty : TypeId} (h : fn.results = #[.cell p ty]) (tmps : Array Value) (w : World) (g : Nat) (t : TypeId) (cs : Array Value) (fr : Nat × Nat) (d : TypeDesc)
    (hp : tmps.getD p undef = .pointer (some ⟨g, 0, none⟩)) (hg : w.heap[g]? = some (.cells cs t fr))
    (hu : P.underlying ty = some d) (hd : (match d with | .struct _ | .array _ _ => true | _ => false) = true) (hi : (P.info? ty).map (·.size) = some cs.size) :
    (results fn tmps).run P w = .ok (.agg cs) w := by
  have hp' : tmps[p]?.getD undef = .pointer (some ⟨g, 0, none⟩) := by simpa using hp
  simp [results, h, hp', asAddr, run_loadVar_row w g t ty cs fr d hg hu hd hi]
theorem Fr.of_below {B : Nat} {w w' : World} (h : Below B w w') : Fr (fun k => B ≤ k) w w' :=
  ⟨h.os, h.tape, h.output, h.size, fun k _ hn => h.block k (by omega)⟩

theorem bcells_length (a : List UInt8) : (bcells a).length = a.length := by simp [bcells]

/-- A kid: its page, its digest. -/
structure Kid where
  page : Nat
  d : List UInt8
structure TRow (w : World) (pa : Option Addr) (pb po : Nat) (ss : List ByteArray) : Prop where
  place : ss ≠ [] → pa = some ⟨pb, po, none⟩ ∧ pb < w.heap.size
  cells : ∀ j x, ss[j]? = some x → w.cell? ⟨pb, po + j, none⟩ = some (.string x)
theorem TRow.same {w w' : World} {pa : Option Addr} {pb po : Nat} {ps : List ByteArray} (h : TRow w pa pb po ps) (s : Same w w') : TRow w' pa pb po ps :=
  ⟨fun e => ⟨(h.place e).1, Nat.lt_of_lt_of_le (h.place e).2 s.size⟩, fun j x hx => s.keep (h.cells j x hx)⟩
def scells (l : List ByteArray) : List Value := l.map fun s => Value.string s
theorem own_blk (ao : Option Addr) (n c : Nat) : Value.ownBlock (.slice ao n c) = ao.map (·.block) := by cases ao <;> rfl
theorem Try.infStr : (Try.prog.info? 9).map (fun i => (i.zero, i.size, i.bytes)) = some (some (.string ⟨#[]⟩), 1, 16) := by kernel_rfl

theorem keepA' {W : World} {a : Addr} {v : Value} (h : W.cell? a = some v) (o : Obj) : (W.alloc o).cell? a = some v := (World.cell?_alloc_lt _ _ _ (World.block_lt_of_cell? W _ h)).trans h
theorem Try.nilSomeTexts (W : World) (a : Addr) (n c : Nat) : (binOp .eql 22 (.slice (some a) n c) (.slice none 0 0)).run Try.prog W = .ok (.bool false) W := by kernel_rfl
theorem Try.nilNoneTexts (W : World) (n c : Nat) : (binOp .eql 22 (.slice none n c) (.slice none 0 0)).run Try.prog W = .ok (.bool true) W := by kernel_rfl
theorem trow_news {w : World} {pa : Option Addr} {pb po : Nat} {ps : List ByteArray} (h : TRow w pa pb po ps) : ∀ j u, (scells ps)[j]? = some u → w.cell? ⟨pb, po + j, none⟩ = some u := fun j u hj => by
  unfold scells at hj
  rw [List.getElem?_map] at hj
  obtain ⟨x, hx, rfl⟩ := Option.map_eq_some_iff.1 hj
  exact h.cells j x hx
theorem scells_one (l : List ByteArray) : ∀ u ∈ scells l, u.oneCell' = true := fun u hu => by
  obtain ⟨x, _, rfl⟩ := List.mem_map.1 hu
  rfl
set_option maxRecDepth 100000 in
set_option maxHeartbeats 1000000 in
theorem cloneTexts_core {a : Addr} {n cp : Nat} {news : List Value} (w : World) (hl : news.length = n * 1) (hnews : ∀ j u, news[j]? = some u → w.cell? (a.add j) = some u) (h1 : ∀ u ∈ news, u.oneCell' = true) (hn : n ≤ 1048576) :
    Calls Try.prog 35 #[.slice (some a) n cp] w fun e w' => ∃ v, e = .returned v ∧ w'.ownsRow w.heap.size 9 1 v n news ∧ Same w w' := by
  have hnil := Try.nilSomeTexts
  obtain ⟨i0, hi, hz0, hz1, hz2⟩ := info_parts Try.infStr
  have hown0 : (w.alloc (.cells #[] 9)).ownsRow w.heap.size 9 1 (.slice (some ⟨w.heap.size, 0, none⟩) 0 0) 0 [] := ⟨by simp, Or.inr ⟨w.heap.size, 0, #[], rfl, Nat.le_refl _, heap_alloc_new w _, Nat.le_refl _, by unfold maxLen; omega, by simp, by simp⟩⟩
  have HNW : Hid (∀ j u, news[j]? = some u → (w.alloc (.cells #[] 9)).cell? (a.add j) = some u) := fun j u hj => keepA' (hnews j u hj) _
  have h1' : Hid (∀ u ∈ news, u.oneCell' = true) := h1
  clear h1 hnews
  go_enter Try.func35, Try.ntmps35
  go_wp2_with (at_builtin; go_must (refine wpList_append_own _ (by rfl) _ _ _ (by rfl) w.heap.size 9 i0 (.string ⟨#[]⟩) 1 16 Try.underlying22 hi hz0 hz1 hz2 rfl (by decide) _ 0 [] (by rfl) hown0 a n cp news (by rfl) hl HNW.out h1'.out (by unfold maxLen; omega) (by omega) (by simp) ?_))
  intro v1 w1 hown hgrow _
  have s1 : Same w w1 := Fr.grown ((Fr.refl _ w).alloc _) hgrow (fun k hk hlt => by simp [Value.ownBlock] at hk; omega)
  clear hgrow
  go_wp2_with fail
  go_ret
  exact ⟨_, rfl, hown, s1⟩
set_option maxRecDepth 100000 in
theorem cloneTexts_nil {n cp : Nat} (w : World) :
    Calls Try.prog 35 #[.slice none n cp] w fun e w' => e = .returned (.slice none 0 0) ∧ Same w w' := by
  have hnil := Try.nilNoneTexts
  go_enter Try.func35, Try.ntmps35
  go_wp2_with fail
  go_ret
  exact ⟨rfl, Fr.refl _ _⟩
theorem cloneTexts {pa : Option Addr} {pb po cp : Nat} {ps : List (ByteArray)} (w : World) (h : TRow w pa pb po ps) (hl : ps.length ≤ 1048576) :
    Calls Try.prog 35 #[.slice pa ps.length cp] w fun e w' => ∃ ao c, e = .returned (.slice ao ps.length c) ∧ w'.ownsRow w.heap.size 9 1 (.slice ao ps.length c) ps.length (scells ps) ∧ Same w w' := by
  cases pa with
  | none =>
    have e : ps = [] := Classical.byContradiction fun e => by cases (h.place e).1
    subst e
    exact (cloneTexts_nil w).mono fun e w' ⟨he, hs⟩ => ⟨_, _, he, own_nil, hs⟩
  | some a =>
    refine (cloneTexts_core w (by simp [scells]) (fun j u hj => ?_) (scells_one ps) hl).mono fun e w' ⟨v, he, ho, hs⟩ => ?_
    · obtain ⟨e, _⟩ := h.place (by intro e; rw [e] at hj; simp [scells] at hj)
      cases e
      rw [WideShapes.add_plain]; exact trow_news h j u hj
    · obtain ⟨ao, c, rfl⟩ := own_shape ho
      exact ⟨ao, c, he, ho, hs⟩
theorem own_neT {W : World} {B n c sz g : Nat} {e t : TypeId} {ao : Option Addr} {xs : List Value} {cs : Array Value} {fr : Nat × Nat} (h : W.ownsRow B e sz (.slice ao n c) n xs) (hg : W.heap[g]? = some (.cells cs t fr)) (hne : e ≠ t) : ∀ k, (Value.slice ao n c).ownBlock = some k → k ≠ g := by
  obtain ⟨hl, h0 | ⟨g2, c2, cur, hv, _, hh, _⟩⟩ := h
  · intro k hk e
    have hn := h0.1
    injection hn with e1 _ _
    rw [e1] at hk
    cases hk
  · intro k hk e2
    injection hv with e1 _ _
    rw [e1] at hk
    simp [Value.ownBlock] at hk
    rw [← hk] at e2
    rw [← e2, hh] at hg
    injection hg with hg
    injection hg with _ h2 _
    exact hne h2
theorem results_row_tmp1 {P : Program} {fn : Func} {p u : Tmp} {ty : TypeId} (h : fn.results = #[.cell p ty, .tmp u]) (tmps : Array Value) (w : World) (g : Nat) (t : TypeId) (cs : Array Value) (fr : Nat × Nat) (d : TypeDesc)
    (hp : tmps.getD p undef = .pointer (some ⟨g, 0, none⟩)) (hg : w.heap[g]? = some (.cells cs t fr))
    (hu : P.underlying ty = some d) (hd : (match d with | .struct _ | .array _ _ => true | _ => false) = true) (hi : (P.info? ty).map (·.size) = some cs.size) :
    (results fn tmps).run P w = .ok (.tuple #[.agg cs, tmps.getD u undef]) w := by
  have hp' : tmps[p]?.getD undef = .pointer (some ⟨g, 0, none⟩) := by simpa using hp
  simp [results, h, hp', asAddr, run_loadVar_row w g t ty cs fr d hg hu hd hi]
theorem own_cellsB {W : World} {B n c sz : Nat} {e : TypeId} {ao : Option Addr} {xs : List Value} (h : W.ownsRow B e sz (.slice ao n c) n xs) {k : Nat} (hk : (Value.slice ao n c).ownBlock = some k) : ∃ cur, W.heap[k]? = some (.cells cur e (0, 0)) := by
  obtain ⟨hl, h0 | ⟨g2, c2, cur, hv, _, hh, _⟩⟩ := h
  · have hn := h0.1
    injection hn with e1 _ _
    rw [e1] at hk
    cases hk
  · injection hv with e1 _ _
    rw [e1] at hk
    simp [Value.ownBlock] at hk
    rw [hk] at hh
    exact ⟨cur, hh⟩
def kOf (a : Act) (t : Nat) : Nat := match a.eval (.tmp t) with | .int _ x => x.toNat | _ => 0
theorem kOf_eq {a : Act} {t k : Nat} (h : a.eval (.tmp t) = .int .i64 (k : Int)) : kOf a t = k := by unfold kOf; rw [h]; simp
theorem own_setN {w : World} {B g cap n i sz : Nat} {e : TypeId} {xs : List Value} (h : w.ownsRow B e sz (.slice (some ⟨g, 0, none⟩) n cap) n xs) (v : Value) :
    (w.setCell ⟨g, i, none⟩ v).ownsRow B e sz (.slice (some ⟨g, 0, none⟩) n cap) n (xs.set i v) := by
  obtain ⟨hl, hn | ⟨g2, c2, cur, hv, hb, hh, hnc, hcm, hcs, htk⟩⟩ := h
  · exact absurd hn.1 (by simp)
  · injection hv with e1 _ e3
    injection e1 with e1
    injection e1 with e1
    subst e1 e3
    refine ⟨by rw [List.length_set]; exact hl, Or.inr ⟨g, cap, cur.setIfInBounds i v, rfl, hb, heap_setCell_same w g i cur e v hh, hnc, hcm, by rw [Array.size_setIfInBounds]; exact hcs, ?_⟩⟩
    rw [Array.toList_setIfInBounds, List.take_set, htk]
theorem own_frozenN {w : World} {B g cap n i sz : Nat} {e : TypeId} {xs : List Value} (h : w.ownsRow B e sz (.slice (some ⟨g, 0, none⟩) n cap) n xs) : w.frozen? ⟨g, i, none⟩ = false := by
  obtain ⟨hl, hn | ⟨g2, c2, cur, hv, hb, hh, hnc, hcm, hcs, htk⟩⟩ := h
  · exact absurd hn.1 (by simp)
  · injection hv with e1 _ e3
    injection e1 with e1
    injection e1 with e1
    subst e1 e3
    exact frozen_of_row w g i _ _ hh
theorem blk_of {ao : Option Addr} {n c : Nat} : (Value.slice ao n c).ownBlock = ao.map (·.block) := by cases ao <;> rfl
end Go.Proofs.Ytljlkcmjbjnihaa
