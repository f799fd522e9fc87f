/- Picked: KM, CF, NW, K4, KC. -/
import Derived.Test.YtajbifblbmlffaaEB
import Derived.WalkKit
import Derived.WalkSpells
import Derived.WalkLawsBesides
import Derived.Deep.AppendLies
import Derived.Lib.AppendStr
import Derived.Laws.IdiomStrings
import Derived.Test.YtajbifblbmlffaaProg
import Derived.Deep.LoopGhost
import Derived.Laws.Rows
import Derived.Deep.MidRow
import Derived.Deep.DeepMust
import Derived.Handy
import Derived.Laws.BitsAllLaws
import Derived.Deep.RegionLaw
import Derived.Deep.DrawnRows
import Derived.Lib.Strings
import Derived.Deep.QuietTactic
import Derived.BigQuiet
import Derived.Laws.ResultCell
import Derived.Laws.CopyOwn
import Derived.ChangeKeysEq
import Derived.BigFrame
import Derived.Deep.RegionHeld3
import Derived.Laws.DeepNot64
import Derived.Lib.LazyBuf
import Derived.Deep.OwnRows
import Derived.Laws.AppendOwn
import Derived.Lib.AppendZerosOnto
import Derived.Laws.AppendOwnNone
import Derived.Shelf.Spec.SlicesGrow
import Derived.Lib.Bytealg
import Derived.WalkMore
import Derived.OwnWalk
import Derived.Lib.BitFns
import Derived.Lib.Small
import Derived.Test.YtajbifblbmlffaaRows
import Derived.ProofKit
import Derived.OpenShut
import Derived.SliceStrings
import Derived.JoinedCond
import Derived.Deep.Slices
import Derived.RegionTactic
import Derived.Deep.RegionWith
import Derived.Laws.Concat
import Derived.RangeFuncNested
import Derived.RangeFuncBound
import Derived.RangeFuncCalls
import Derived.RangeFuncLeaves
import Derived.Shelf.Abstract
import Derived.Shelf.RegionOpen
import Derived.OwnWalkIn
import Derived.TacticsInMore
import Derived.LoopNIn
import Derived.LoopIn
import Derived.Deep.Strs
import Derived.Lib.SmallJoins
import Derived.Lib.AppendZeros
namespace Go.Proofs.Ytajbifblbmlffaa
open Go.RowKit


theorem setCells_row {w : World} {b : Nat} {t : TypeId} (vs : List Value) (o : Nat) (old : Array Value) (h : w.heap[b]? = some (.cells old t (0, 0))) : ∃ A, (w.setCells b o vs).heap[b]? = some (.cells A t (0, 0)) ∧ A.size = old.size := by
  induction vs generalizing w o old with
  | nil => exact ⟨old, h, rfl⟩
  | cons v vs ih =>
    obtain ⟨A, h1, h2⟩ := ih (o + 1) _ (heap_setCell_same w b o old t v h)
    exact ⟨A, h1, by rw [h2]; simp⟩
theorem setCells_whole {w : World} {b : Nat} {t : TypeId} (vs : List Value) (old : Array Value) (h : w.heap[b]? = some (.cells old t (0, 0))) (hl : old.size = vs.length) (ht : w.there b 0 vs.length) : (w.setCells b 0 vs).heap[b]? = some (.cells vs.toArray t (0, 0)) := by
  obtain ⟨A, h1, h2⟩ := setCells_row vs 0 old h
  have hr := World.rangeAt_setCells_same w b 0 vs ht
  have : A = vs.toArray := by
    apply Array.ext
    · simpa using h2.trans hl
    · intro j hj1 hj2
      have hj3 : j < vs.length := by simpa using hj2
      have := hr j vs[j] (List.getElem?_eq_getElem hj3)
      rw [Nat.zero_add, cell_of_row _ _ _ _ _ _ h1, Array.getElem?_eq_getElem hj1] at this
      injection this with this
  rw [h1, this]
theorem Fr.setCells {S : Nat → Prop} {a : World} {b : Nat} (hb : b < a.heap.size → S b) (vs : List Value) : ∀ (o : Nat) (w : World), Fr S a w → Fr S a (w.setCells b o vs) := by
  induction vs with
  | nil => intro o w h; exact h
  | cons v vs ih => intro o w h; exact ih (o + 1) _ (h.setCell (p := ⟨b, o, none⟩) hb v)
theorem there_row {w : World} {b n : Nat} {t : TypeId} {old : Array Value} (h : w.heap[b]? = some (.cells old t (0, 0))) (hn : n = old.size) : w.there b 0 n := by
  intro j hj
  rw [Nat.zero_add]
  refine ⟨?_, frozen_of_row w b j old t h⟩
  rw [cell_of_row _ _ _ _ _ _ h, Array.getElem?_eq_getElem (by omega)]; rfl


/-- A whole array stored into a block of its own. -/
theorem wpList_store_whole {P : Program} {ops : Array Oper} {rest : List Oper} {op : Oper} {a : Act} {w : World} {Q : Exit → Act → World → Prop} (hgd : op.guard = none) (ty : TypeId) (x y : Operand) (ho : op.op = .store ty x y)
    (b : Nat) (cells old : Array Value) (t : TypeId) (hx : a.eval x = .pointer (some ⟨b, 0, none⟩)) (hy : a.eval y = .agg cells) (hb : w.heap[b]? = some (.cells old t (0, 0))) (hl : old.size = cells.size)
    (hi : (P.info? ty).map (·.size) = some cells.size) (h1 : cells.all (·.oneCell') = true)
    (h : ∀ w', w'.heap[b]? = some (.cells cells t (0, 0)) → Fr (fun k => k = b) w w' → wpList P ops Q rest (a.put op.dst undef) w') : wpList P ops Q (op :: rest) a w := by
  have hth : w.there b 0 cells.size := there_row hb hl.symm
  refine wpList_store_mid hgd ty x y ho b 0 cells hx hy hth hi h1 (h _ ?_ (Fr.setCells (S := fun k => k = b) (fun _ => rfl) _ 0 w (Fr.refl _ w)))
  have := setCells_whole cells.toList old hb (by rw [hl, Array.length_toList]) (by rw [Array.length_toList]; exact hth)
  rwa [Array.toArray_toList] at this

theorem own_cell {W : World} {e : TypeId} {sz g cap n : Nat} {xs : List Value} (h : W.ownsRow 0 e sz (.slice (some ⟨g, 0, none⟩) n cap) n xs) {j : Nat} {u : Value} (hu : xs[j]? = some u) : W.cell? ⟨g, j, none⟩ = some u := by
  obtain ⟨hl, hn | ⟨g2, c2, cur, hv, _, hh, _, _, _, htk⟩⟩ := h
  · exact absurd hn.1 (by simp)
  · injection hv with e1
    injection e1 with e1
    injection e1 with e1
    subst e1
    rw [cell_of_row _ _ _ _ _ _ hh]
    rw [← htk, List.getElem?_take] at hu
    split at hu
    · simpa using hu
    · cases hu
theorem own_some {W : World} {e : TypeId} {sz n cap : Nat} {xs : List Value} {ao : Option Addr} (h : W.ownsRow 0 e sz (.slice ao n cap) n xs) (hn : n ≠ 0) : ∃ g, ao = some ⟨g, 0, none⟩ ∧ g < W.heap.size := by
  obtain ⟨hl, h0 | ⟨g2, c2, cur, hv, _, hh, _⟩⟩ := h
  · exact absurd h0.2 hn
  · injection hv with e1 _ _
    exact ⟨g2, e1, lt_of_heap hh⟩
theorem own_nil {w : World} {base : Nat} {e : TypeId} {sz : Nat} : w.ownsRow base e sz (.slice none 0 0) 0 [] := ⟨by simp, Or.inl ⟨rfl, rfl⟩⟩
theorem own_shape {w : World} {base : Nat} {e : TypeId} {sz n : Nat} {v : Value} {xs : List Value} (h : w.ownsRow base e sz v n xs) : ∃ ao c, v = .slice ao n c := by
  obtain ⟨_, ⟨rfl, rfl⟩ | ⟨g, c, _, rfl, _⟩⟩ := h
  · exact ⟨none, 0, rfl⟩
  · exact ⟨_, c, rfl⟩
theorem own_base {w : World} {base b2 : Nat} {e : TypeId} {sz n : Nat} {v : Value} {xs : List Value} (h : w.ownsRow base e sz v n xs) (hb : b2 ≤ base) : w.ownsRow b2 e sz v n xs := by
  obtain ⟨h1, h2⟩ := h
  refine ⟨h1, ?_⟩
  rcases h2 with h2 | ⟨g, c, cur, hv, hg, r⟩
  · exact Or.inl h2
  · exact Or.inr ⟨g, c, cur, hv, by omega, r⟩
theorem own_frameB {w w' : World} {base : Nat} {e : TypeId} {sz n : Nat} {v : Value} {xs : List Value} {S : Nat → Prop} (h : w.ownsRow base e sz v n xs) (hf : Fr S w w') (hn : ∀ k, v.ownBlock = some k → ¬ S k) : w'.ownsRow base e sz v n xs := by
  obtain ⟨h1, h2⟩ := h
  refine ⟨h1, ?_⟩
  rcases h2 with h2 | ⟨g, c, cur, hv, hg, hh, r⟩
  · exact Or.inl h2
  · refine Or.inr ⟨g, c, cur, hv, hg, ?_, r⟩
    rw [hf.block g (lt_of_heap hh) (hn g (by rw [hv]; rfl))]; exact hh
theorem own_ge {w : World} {base : Nat} {e : TypeId} {sz n c : Nat} {a : Addr} {xs : List Value} (h : w.ownsRow base e sz (.slice (some a) n c) n xs) : base ≤ a.block ∧ a.block < w.heap.size := by
  obtain ⟨_, ⟨h2, _⟩ | ⟨g, c, cur, hv, hg, hh, _⟩⟩ := h
  · cases h2
  · injection hv with e1
    injection e1 with e1
    rw [e1]; exact ⟨hg, lt_of_heap hh⟩
/-- A slice that is handed in: where it lies, how long it is, its cells. -/
structure Part where
  ao : Option Addr
  n : Nat
  c : Nat
  cells : List Value
structure PartOk (w : World) (sz : Nat) (x : Part) : Prop where
  len : x.cells.length = x.n * sz
  none : x.ao = none → x.n = 0 ∧ x.c = 0
  at_ : ∀ a, x.ao = some a → ∀ j u, x.cells[j]? = some u → w.cell? (a.add j) = some u
  one : ∀ u ∈ x.cells, u.oneCell' = true
theorem PartOk.same {w w' : World} {sz : Nat} {x : Part} (h : PartOk w sz x) (s : Same w w') : PartOk w' sz x := ⟨h.len, h.none, fun a ha j u hj => s.keep (h.at_ a ha j u hj), h.one⟩
theorem results_row_tmp2 {P : Program} {fn : Func} {p u u2 : Tmp} {ty : TypeId} (h : fn.results = #[.cell p ty, .tmp u, .tmp u2]) (tmps : Array Value) (w : World) (g : Nat) (t : TypeId) (cs : Array Value) (fr : Nat × Nat) (d : TypeDesc)
    (hp : tmps.getD p undef = .pointer (some ⟨g, 0, none⟩)) (hg : w.heap[g]? = some (.cells cs t fr))
    (hu : P.underlying ty = some d) (hd : (match d with | .struct _ | .array _ _ => true | _ => false) = true) (hi : (P.info? ty).map (·.size) = some cs.size) :
    (results fn tmps).run P w = .ok (.tuple #[.agg cs, tmps.getD u undef, tmps.getD u2 undef]) w := by
  have hp' : tmps[p]?.getD undef = .pointer (some ⟨g, 0, none⟩) := by simpa using hp
  simp [results, h, hp', asAddr, run_loadVar_row w g t ty cs fr d hg hu hd hi]

theorem results_row_one {P : Program} {fn : Func} {p : Tmp} {ty : TypeId} (h : fn.results = #[.cell p ty]) (tmps : Array Value) (w : World) (g : Nat) (t : TypeId) (cs : Array Value) (fr : Nat × Nat) (d : TypeDesc)
    (hp : tmps.getD p undef = .pointer (some ⟨g, 0, none⟩)) (hg : w.heap[g]? = some (.cells cs t fr))
    (hu : P.underlying ty = some d) (hd : (match d with | .struct _ | .array _ _ => true | _ => false) = true) (hi : (P.info? ty).map (·.size) = some cs.size) :
    (results fn tmps).run P w = .ok (.agg cs) w := by
  have hp' : tmps[p]?.getD undef = .pointer (some ⟨g, 0, none⟩) := by simpa using hp
  simp [results, h, hp', asAddr, run_loadVar_row w g t ty cs fr d hg hu hd hi]
theorem own_frame {e : TypeId} {w w' : World} {v : Value} {n : Nat} {xs : List Value} {S : Nat → Prop} (h : w.ownsRow 0 e 1 v n xs) (hf : Fr S w w') (hn : ∀ k, v.ownBlock = some k → ¬ S k) : w'.ownsRow 0 e 1 v n xs := by
  obtain ⟨h1, h2⟩ := h
  refine ⟨h1, ?_⟩
  rcases h2 with h2 | ⟨g, cap, cur, hv, hg, hh, r⟩
  · exact Or.inl h2
  · exact Or.inr ⟨g, cap, cur, hv, hg, by rw [hf.block g (lt_of_heap hh) (hn g (by rw [hv]; rfl))]; exact hh, r⟩

-- wants 112
theorem WrAt.same {w w' : World} {b : Nat} {g : Option Nat} {bs : List UInt8} (h : WrAt w b g bs) (k : Fr (fun _ => False) w w') : WrAt w' b g bs := by
  obtain ⟨ao, c, hblk, hown, hg⟩ := h
  exact ⟨ao, c, by rw [k.block b (lt_of_heap hblk) (fun f => f)]; exact hblk, own_frame hown k (fun _ _ f => f), hg⟩
theorem WrStep.same {b : Nat} {g g' : Option Nat} {w w1 w2 : World} (h : Fr (fun _ => False) w w1) (k : WrStep b g g' w1 w2) : WrStep b g g' w w2 :=
  ⟨Fr.trans (h.mono (fun _ _ f => f.elim)) k.1 (fun _ _ t => t), fun i hi => by rcases k.2 i hi with h' | h'; exact Or.inl h'; exact Or.inr (Nat.le_trans h.size h')⟩
-- wants 112
theorem WrAt.same1 {w w' : World} {b : Nat} {g : Option Nat} {bs : List UInt8} (h : WrAt w b g bs) (k : Same w w') : WrAt w' b g bs := by
  obtain ⟨ao, c, hb, ho, hg⟩ := h
  exact ⟨ao, c, by rw [k.block b (lt_of_heap hb) (fun f => f)]; exact hb, own_frame ho k (fun _ _ f => f), hg⟩
-- wants 112
theorem WSt.same {w W W' : World} {b : Nat} {bs : List UInt8} (h : WSt w W b bs) (s : Same W W') : WSt w W' b bs := by
  obtain ⟨g, h1, h2, h3, h4⟩ := h
  exact ⟨g, h1.same1 s, h2, h3, h4.trans s⟩
end Go.Proofs.Ytajbifblbmlffaa
