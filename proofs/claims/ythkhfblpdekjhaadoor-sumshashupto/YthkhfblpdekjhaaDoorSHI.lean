/-
  Walks: SumsHash.
-/
import Derived.Test.YthkhfblpdekjhaaDoorSHH
import Derived.Test.YthkhfblpdekjhaaDoorSRG
import Derived.Test.YthkhfblpdekjhaaDoorSRI
import Derived.Test.YthkhfblpdekjhaaDoorSKJ
import Derived.Deep.RegionHeld3
import Derived.Deep.RegionWith
namespace Go.Proofs.YthkhfblpdekjhaaDoor
open Go.RowKit

def ptrs (P : List Nat) : List Value := P.map fun b => .pointer (some ⟨b, 0, none⟩)
def strs4 (M : List ByteArray) : List Value := M.map .string
/-- The four hashes: where they lie, and what was written to each. -/
structure HSt (w W : World) (P : List Nat) (M : List ByteArray) (N : Nat) : Prop where
  pl : P.length = 4
  ml : M.length = 4
  hrow : W.heap[w.heap.size]? = some (.cells (ptrs P).toArray 24 (0, 0))
  wrow : W.heap[w.heap.size + 1]? = some (.cells (strs4 M).toArray 25 (0, 0))
  hash : ∀ (i b : Nat) (m : ByteArray), P[i]? = some b → M[i]? = some m → HashOf W b m.data.toList
  inj : ∀ (i j b : Nat), P[i]? = some b → P[j]? = some b → i = j
  new : ∀ b ∈ P, w.heap.size + 2 ≤ b
  size : ∀ m ∈ M, m.size ≤ N
  same : Same w W
/-- The first so many hashes are made. -/
structure HNew (w W : World) (P : List Nat) : Prop where
  hrow : W.heap[w.heap.size]? = some (.cells (ptrs P ++ List.replicate (4 - P.length) (Value.pointer none)).toArray 24 (0, 0))
  wrow : W.heap[w.heap.size + 1]? = some (.cells (strs4 (List.replicate 4 ⟨#[]⟩)).toArray 25 (0, 0))
  hash : ∀ b ∈ P, HashOf W b []
  nodup : P.Nodup
  new : ∀ b ∈ P, w.heap.size + 2 ≤ b
  same : Same w W
theorem HNew.all {w W : World} {P : List Nat} (h : HNew w W P) (hl : P.length = 4) : HSt w W P (List.replicate 4 ⟨#[]⟩) 0 := by
  refine ⟨hl, by simp, ?_, h.wrow, ?_, ?_, h.new, ?_, h.same⟩
  · have := h.hrow
    rw [hl, Nat.sub_self, List.replicate_zero, List.append_nil] at this
    exact this
  · intro i b m hb hm
    rw [List.getElem?_replicate] at hm
    split at hm
    · cases hm; exact h.hash b (List.mem_of_getElem? hb)
    · cases hm
  · intro i j b hi hj
    have li := (List.getElem?_eq_some_iff.1 hi).1
    exact (List.getElem?_inj li h.nodup).1 (hi.trans hj.symm)
  · intro m hm
    rw [List.eq_of_mem_replicate hm]; exact Nat.le_refl _
theorem HNew.next {w W W' : World} {P : List Nat} (h : HNew w W P) (hl : P.length < 4) (hs : Same W W') (hh : HashOf W' W.heap.size []) : HNew w (W'.setCell ⟨w.heap.size, P.length, none⟩ (.pointer (some ⟨W.heap.size, 0, none⟩))) (P ++ [W.heap.size]) := by
  have lt1 := lt_of_heap h.wrow
  have r1 : W'.heap[w.heap.size]? = _ := (hs.block _ (lt_of_heap h.hrow) (fun f => f)).trans h.hrow
  have r2 : W'.heap[w.heap.size + 1]? = _ := (hs.block _ lt1 (fun f => f)).trans h.wrow
  have hot : ∀ (b : Nat) (m : List UInt8), b ≠ w.heap.size → HashOf W' b m → HashOf (W'.setCell ⟨w.heap.size, P.length, none⟩ (.pointer (some ⟨W.heap.size, 0, none⟩))) b m := by
    intro b m hb ⟨rest, ⟨a1, a2⟩, a3⟩
    exact ⟨rest, ⟨(Below.heap_setCell W' ⟨w.heap.size, P.length, none⟩ _ b hb).trans a1, a2⟩, a3⟩
  refine ⟨?_, ?_, ?_, ?_, ?_, ?_⟩
  · rw [heap_setCell_same W' w.heap.size P.length _ _ _ r1]
    have e : (ptrs P ++ List.replicate (4 - P.length) (Value.pointer none)).set P.length (.pointer (some ⟨W.heap.size, 0, none⟩)) = ptrs (P ++ [W.heap.size]) ++ List.replicate (4 - (P ++ [W.heap.size]).length) (Value.pointer none) := by
      have lp : (ptrs P).length = P.length := by simp [ptrs]
      obtain ⟨n, hn⟩ : ∃ n, 4 - P.length = n + 1 := ⟨3 - P.length, by omega⟩
      have hn2 : 4 - (P ++ [W.heap.size]).length = n := by simp; omega
      rw [List.set_append_right _ _ (by omega), lp, Nat.sub_self, hn, hn2, List.replicate_succ, List.set_cons_zero]
      simp [ptrs]
    simp only [List.setIfInBounds_toArray, e]
  · exact (Below.heap_setCell W' ⟨w.heap.size, P.length, none⟩ _ (w.heap.size + 1) (by simp)).trans r2
  · intro b hb
    rcases List.mem_append.1 hb with hb | hb
    · have := h.new b hb
      exact hot b [] (by omega) ((h.hash b hb).same hs)
    · simp at hb
      subst hb
      exact hot _ [] (by omega) hh
  · rw [List.nodup_append]
    refine ⟨h.nodup, by simp, ?_⟩
    intro a ha b hb
    simp at hb
    subst hb
    have := (h.hash a ha).lt
    omega
  · intro b hb
    rcases List.mem_append.1 hb with hb | hb
    · exact h.new b hb
    · simp at hb
      omega
  · exact (h.same.trans hs).setCell (p := ⟨w.heap.size, P.length, none⟩) (fun h => by simp only at h; omega) _
theorem HSt.of_same {w W W' : World} {P : List Nat} {M : List ByteArray} {N : Nat} (h : HSt w W P M N) (s : Same W W') : HSt w W' P M N :=
  ⟨h.pl, h.ml, (s.block _ (lt_of_heap h.hrow) (fun f => f)).trans h.hrow, (s.block _ (lt_of_heap h.wrow) (fun f => f)).trans h.wrow, fun i b m hb hm => (h.hash i b m hb hm).same s, h.inj, h.new, h.size, h.same.trans s⟩
theorem HSt.grow {w W : World} {P : List Nat} {M : List ByteArray} {N N' : Nat} (h : HSt w W P M N) (hN : N ≤ N') : HSt w W P M N' :=
  ⟨h.pl, h.ml, h.hrow, h.wrow, h.hash, h.inj, h.new, fun m hm => Nat.le_trans (h.size m hm) hN, h.same⟩
theorem HSt.hcell {w W : World} {P : List Nat} {M : List ByteArray} {N : Nat} (h : HSt w W P M N) {i b : Nat} (hb : P[i]? = some b) : W.cell? ⟨w.heap.size, i, none⟩ = some (.pointer (some ⟨b, 0, none⟩)) ∧ W.frozen? ⟨w.heap.size, i, none⟩ = false := by
  refine ⟨?_, frozen_of_row W w.heap.size i _ _ h.hrow⟩
  rw [cell_of_row _ _ _ _ _ _ h.hrow, List.getElem?_toArray, ptrs, List.getElem?_map, hb]; rfl
theorem HSt.wcell {w W : World} {P : List Nat} {M : List ByteArray} {N : Nat} (h : HSt w W P M N) {i : Nat} {m : ByteArray} (hm : M[i]? = some m) : W.cell? ⟨w.heap.size + 1, i, none⟩ = some (.string m) ∧ W.frozen? ⟨w.heap.size + 1, i, none⟩ = false := by
  refine ⟨?_, frozen_of_row W (w.heap.size + 1) i _ _ h.wrow⟩
  rw [cell_of_row _ _ _ _ _ _ h.wrow, List.getElem?_toArray, strs4, List.getElem?_map, hm]; rfl
theorem hash_setCell {W : World} {b : Nat} {m : List UInt8} (h : HashOf W b m) {p : Addr} (hp : b ≠ p.block) (v : Value) : HashOf (W.setCell p v) b m := by
  obtain ⟨rest, ⟨a1, a2⟩, a3⟩ := h
  exact ⟨rest, ⟨(Below.heap_setCell W p v b hp).trans a1, a2⟩, a3⟩
theorem prow_set {w : World} {b k : Nat} {l : List Nat} {t : TypeId} (h : w.heap[b]? = some (.cells (ptrs l).toArray t (0, 0))) (x : Nat) : (w.setCell ⟨b, k, none⟩ (.pointer (some ⟨x, 0, none⟩))).heap[b]? = some (.cells (ptrs (l.set k x)).toArray t (0, 0)) := by
  rw [heap_setCell_same w b k _ t _ h]
  simp [ptrs, List.map_set]
theorem s4row_set {w : World} {b k : Nat} {l : List ByteArray} {t : TypeId} (h : w.heap[b]? = some (.cells (strs4 l).toArray t (0, 0))) (x : ByteArray) : (w.setCell ⟨b, k, none⟩ (.string x)).heap[b]? = some (.cells (strs4 (l.set k x)).toArray t (0, 0)) := by
  rw [heap_setCell_same w b k _ t _ h]
  simp [strs4, List.map_set]
/-- A hash of its own is laid at a place. -/
theorem HSt.lay {w W W' : World} {P : List Nat} {M : List ByteArray} {N : Nat} (h : HSt w W P M N) (s : Same W W') {to g : Nat} {m : ByteArray} (hto : to < 4) (hg : W.heap.size ≤ g) (hh : HashOf W' g m.data.toList) (hm : m.size ≤ N) :
    HSt w ((W'.setCell ⟨w.heap.size, to, none⟩ (.pointer (some ⟨g, 0, none⟩))).setCell ⟨w.heap.size + 1, to, none⟩ (.string m)) (P.set to g) (M.set to m) N := by
  have h' := h.of_same s
  have l1 := lt_of_heap h.wrow
  have hpl := h.pl
  have hml := h.ml
  have r1 := prow_set h'.hrow (k := to) g
  have r2 : (W'.setCell ⟨w.heap.size, to, none⟩ (.pointer (some ⟨g, 0, none⟩))).heap[w.heap.size + 1]? = _ := (Below.heap_setCell W' ⟨w.heap.size, to, none⟩ (.pointer (some ⟨g, 0, none⟩)) (w.heap.size + 1) (by simp)).trans h'.wrow
  refine ⟨by simpa using hpl, by simpa using hml, ?_, s4row_set r2 (k := to) m, ?_, ?_, ?_, ?_, ?_⟩
  · exact (Below.heap_setCell _ ⟨w.heap.size + 1, to, none⟩ (.string m) w.heap.size (by simp)).trans r1
  · intro i b x hb hx
    have key : w.heap.size + 2 ≤ b ∧ HashOf W' b x.data.toList := by
      by_cases e : to = i
      · subst e
        rw [List.getElem?_set, if_pos rfl, if_pos (by omega)] at hb hx
        cases hb; cases hx
        exact ⟨by omega, hh⟩
      · rw [List.getElem?_set, if_neg e] at hb hx
        exact ⟨h.new b (List.mem_of_getElem? hb), h'.hash i b x hb hx⟩
    exact hash_setCell (hash_setCell key.2 (by simp only; omega) _) (by simp only; omega) _
  · have far : ∀ i b : Nat, P[i]? = some b → b < W.heap.size := by
      intro i b hb
      obtain ⟨x, hx⟩ : ∃ x, M[i]? = some x := ⟨_, List.getElem?_eq_getElem (by have := (List.getElem?_eq_some_iff.1 hb).1; omega)⟩
      exact (h.hash i b x hb hx).lt
    intro i j b hi hj
    by_cases ei : to = i
    · by_cases ej : to = j
      · omega
      · subst ei
        rw [List.getElem?_set, if_pos rfl, if_pos (by omega)] at hi
        rw [List.getElem?_set, if_neg ej] at hj
        cases hi
        have := far j _ hj
        omega
    · by_cases ej : to = j
      · subst ej
        rw [List.getElem?_set, if_pos rfl, if_pos (by omega)] at hj
        rw [List.getElem?_set, if_neg ei] at hi
        cases hj
        have := far i _ hi
        omega
      · rw [List.getElem?_set, if_neg ei] at hi
        rw [List.getElem?_set, if_neg ej] at hj
        exact h.inj i j b hi hj
  · intro b hb
    rcases List.mem_or_eq_of_mem_set hb with hb | rfl
    · exact h.new b hb
    · omega
  · intro x hx
    rcases List.mem_or_eq_of_mem_set hx with hx | rfl
    · exact h.size x hx
    · exact hm
  · exact (h'.same.setCell (p := ⟨w.heap.size, to, none⟩) (fun h => by simp only at h; omega) _).setCell (p := ⟨w.heap.size + 1, to, none⟩) (fun h => by simp only at h; omega) _
/-- More was written to a hash. -/
theorem HSt.wrote {w W W' : World} {P : List Nat} {M : List ByteArray} {N N' : Nat} (h : HSt w W P M N) {on b : Nat} {m x : ByteArray} (hb : P[on]? = some b) (hm : M[on]? = some m) (s : Fr (fun k => k = b) W W') (hh : HashOf W' b x.data.toList) (hN : N ≤ N') (hx : x.size ≤ N') :
    HSt w (W'.setCell ⟨w.heap.size + 1, on, none⟩ (.string x)) P (M.set on x) N' := by
  have hbn := h.new b (List.mem_of_getElem? hb)
  have l1 := lt_of_heap h.wrow
  have r1 : W'.heap[w.heap.size]? = _ := (s.block _ (lt_of_heap h.hrow) (by omega)).trans h.hrow
  have r2 : W'.heap[w.heap.size + 1]? = _ := (s.block _ l1 (by omega)).trans h.wrow
  have hml := h.ml
  refine ⟨h.pl, by simpa using hml, (Below.heap_setCell _ ⟨w.heap.size + 1, on, none⟩ (.string x) w.heap.size (by simp)).trans r1, s4row_set r2 (k := on) x, ?_, h.inj, h.new, ?_, ?_⟩
  · intro i c y hc hy
    have hcn := h.new c (List.mem_of_getElem? hc)
    refine hash_setCell ?_ (by simp only; omega) _
    by_cases e : on = i
    · subst e
      rw [List.getElem?_set, if_pos rfl, if_pos (by have := (List.getElem?_eq_some_iff.1 hm).1; omega)] at hy
      cases hy
      rw [hb] at hc
      cases hc
      exact hh
    · rw [List.getElem?_set, if_neg e] at hy
      obtain ⟨rest, ⟨a1, a2⟩, a3⟩ := h.hash i c y hc hy
      have hne : ¬ c = b := fun e2 => e (h.inj on i b hb (by rw [hc, e2]))
      exact ⟨rest, ⟨(s.block c (lt_of_heap a1) hne).trans a1, a2⟩, a3⟩
  · intro y hy
    rcases List.mem_or_eq_of_mem_set hy with hy | rfl
    · exact Nat.le_trans (h.size y hy) hN
    · exact hx
  · exact (Fr.trans h.same s (fun i hi e => by omega)).setCell (p := ⟨w.heap.size + 1, on, none⟩) (fun h => by simp only at h; omega) _
theorem HSt.later {w W : World} {P : List Nat} {M : List ByteArray} {N : Nat} (h : HSt w W P M N) (to : Nat) (v : Value) {i : Nat} {m : ByteArray} (hm : M[i]? = some m) : (W.setCell ⟨w.heap.size, to, none⟩ v).cell? ⟨w.heap.size + 1, i, none⟩ = some (.string m) ∧ (W.setCell ⟨w.heap.size, to, none⟩ v).frozen? ⟨w.heap.size + 1, i, none⟩ = false := by
  have r : (W.setCell ⟨w.heap.size, to, none⟩ v).heap[w.heap.size + 1]? = _ := (Below.heap_setCell W ⟨w.heap.size, to, none⟩ v (w.heap.size + 1) (by simp)).trans h.wrow
  refine ⟨?_, frozen_of_row _ (w.heap.size + 1) i _ _ r⟩
  rw [cell_of_row _ _ _ _ _ _ r, List.getElem?_toArray, strs4, List.getElem?_map, hm]; rfl
/-- A call of the script, and where its parts lie. -/
structure ActP where
  on : Int
  to : Int
  kind : Int
  ss : List ByteArray
  pa : Option Addr
  pb : Nat
  po : Nat
  pc : Nat
structure ActAt (w : World) (b o : Nat) (a : ActP) : Prop where
  c0 : w.cell? ⟨b, o, none⟩ = some (.int .i64 a.on)
  c1 : w.cell? ⟨b, o + 1, none⟩ = some (.int .i64 a.to)
  c2 : w.cell? ⟨b, o + 2, none⟩ = some (.int .i64 a.kind)
  c3 : w.cell? ⟨b, o + 3, none⟩ = some (.slice a.pa a.ss.length a.pc)
  parts : SAt w a.pa a.pb a.po a.ss
  len : a.ss.length ≤ 4194304
theorem ActAt.of_same {w w' : World} {b o : Nat} {a : ActP} (h : ActAt w b o a) (s : Same w w') : ActAt w' b o a := ⟨s.keep h.c0, s.keep h.c1, s.keep h.c2, s.keep h.c3, h.parts.same s, h.len⟩
structure ScrAt (w : World) (pa : Option Addr) (sb so : Nat) (xs : List ActP) : Prop where
  place : xs ≠ [] → pa = some ⟨sb, so, none⟩
  acts : ∀ (j : Nat) (a : ActP), xs[j]? = some a → ActAt w sb (so + j * 4) a
def totA (xs : List ActP) : Nat := (xs.map fun a => (flat a.ss).length).sum
theorem totA_snoc (xs : List ActP) (k : Nat) (a : ActP) (h : xs[k]? = some a) : totA (xs.take (k + 1)) = totA (xs.take k) + (flat a.ss).length := by
  unfold totA
  rw [List.take_add_one, h]
  simp
theorem totA_take (xs : List ActP) (k : Nat) : totA (xs.take k) ≤ totA xs := by
  unfold totA
  conv => rhs; rw [← List.take_append_drop k xs, List.map_append, List.sum_append]
  omega
set_option maxRecDepth 100000 in
set_option maxHeartbeats 2000000 in
theorem shash_walk (w : World) (ht : TabAt w) (xs : List ActP) (pa : Option Addr) (sb so pc : Nat) (hsc : ScrAt w pa sb so xs) (hal : xs.length ≤ 4194304) (htot : totA xs ≤ 1099511627776) : Calls Tryd.prog 3 #[.slice pa xs.length pc] w fun e w' => e = .returned (.bool true) ∧ Same w w' := by
  have HN : Hid (∀ W, Calls Tryd.prog 8 #[] W fun e w' => e = .returned (.pointer (some ⟨W.heap.size, 0, none⟩)) ∧ HashOf w' W.heap.size [] ∧ Same W w') := fun W => (new_calls W).mono fun e w' h => ⟨h.1, HashOf.new h.2.1, h.2.2⟩
  have HA : Hid (∀ W, Same w W → Calls Tryd.prog 18 #[] W fun e w' => e = .returned (.bool true) ∧ Same W w') := fun W s => awake_calls W (ht.same s)
  have HSC : Hid (ScrAt w pa sb so xs) := hsc
  have HTOT : Hid (totA xs ≤ 1099511627776) := htot
  clear ht hsc htot
  go_enter Tryd.func3, Tryd.ntmps3
  go_wp2_with fail
  obtain ⟨W1, hW1⟩ : ∃ W1, W1 = (w.alloc (.cells (List.replicate 4 (.pointer none)).toArray 24)).alloc (.cells (strs4 (List.replicate 4 ⟨#[]⟩)).toArray 25) := ⟨_, rfl⟩
  have hz1 : (List.replicate 4 (.pointer none) : List Value).toArray = #[.pointer none, .pointer none, .pointer none, .pointer none] := rfl
  have hz2 : (strs4 (List.replicate 4 ⟨#[]⟩)).toArray = #[.string ⟨#[]⟩, .string ⟨#[]⟩, .string ⟨#[]⟩, .string ⟨#[]⟩] := rfl
  rw [← hz1, ← hz2, ← hW1]
  have H0 : Hid (HNew w W1 []) := by
    refine ⟨?_, ?_, (fun b hb => by cases hb), List.nodup_nil, (fun b hb => by cases hb), ?_⟩
    · rw [hW1, heap_alloc_old _ _ (by simp)]; exact heap_alloc_new w _
    · rw [hW1]; exact heap_alloc2_new w _ _
    · rw [hW1]; exact ((Fr.refl _ w).alloc _).alloc _
  clear hW1 hz1 hz2
  go_loopg [5] 4 (fun gg iv wq => ∃ P : List Nat, iv = .int .i64 P.length ∧ P.length ≤ 4 ∧ gg = 4 - P.length ∧ Hid (HNew w wq P))
  case atStart => exact ⟨[], rfl, by simp, rfl, H0⟩
  case round =>
    clear H0
    obtain ⟨P, rfl, hP, rfl, H0⟩ := hrel
    by_cases hgo : P.length < 4
    · have HX : Hid (∀ W' : World, Same wr W' → HashOf W' wr.heap.size [] → HNew w (W'.setCell ⟨w.heap.size, P.length, none⟩ (.pointer (some ⟨wr.heap.size, 0, none⟩))) (P ++ [wr.heap.size])) := fun W' s h => H0.out.next hgo s h
      have HC : Hid (∀ W' : World, Same wr W' → W'.cell? ⟨w.heap.size, P.length, none⟩ = some (.pointer none) ∧ W'.frozen? ⟨w.heap.size, P.length, none⟩ = false) := by
        intro W' s
        have r1 : W'.heap[w.heap.size]? = _ := (s.block _ (lt_of_heap H0.out.hrow) (fun f => f)).trans H0.out.hrow
        refine ⟨?_, frozen_of_row W' w.heap.size P.length _ _ r1⟩
        rw [cell_of_row _ _ _ _ _ _ r1]
        have lp : (ptrs P).length = P.length := by simp [ptrs]
        rw [List.getElem?_toArray, List.getElem?_append_right (by omega), lp, Nat.sub_self, List.getElem?_replicate, if_pos (by omega)]
      obtain ⟨k, hk⟩ : ∃ k, k = P.length := ⟨_, rfl⟩
      rw [← hk] at hgo HX HC ⊢
      have hkI : (k : Int) < 4 := by omega
      have HK : Hid (k = P.length) := hk
      clear hk
      go_wp2_with fail
      refine (HN.out _).mono ?_
      rintro e W2 ⟨rfl, h2, s2⟩
      have h3 := HX.out W2 s2 h2
      obtain ⟨c2, f2⟩ := HC.out W2 s2
      have H3 : Hid (HNew w (W2.setCell ⟨w.heap.size, k, none⟩ (.pointer (some ⟨wr.heap.size, 0, none⟩))) (P ++ [wr.heap.size])) := h3
      clear h3 h2 s2
      go_wp2_with fail
      have hk := HK.out
      go_roundg (4 - (P ++ [wr.heap.size]).length)
      case measure => simp; omega
      case rel => exact ⟨P ++ [wr.heap.size], by simp; go_num, by simp; omega, rfl, H3⟩
    · have h4 : P.length = 4 := by omega
      have HS : Hid (HSt w wr P (List.replicate 4 ⟨#[]⟩) 0) := H0.out.all h4
      rw [h4]
      clear H0 hP hgo h4
      obtain ⟨n, hn⟩ : ∃ n, n = xs.length := ⟨_, rfl⟩
      have HNN : Hid (n = xs.length) := hn
      rw [← hn] at hal ⊢
      clear hn
      go_wp2_with fail
      generalize wr = W9 at *
      go_loopg [6] n (fun gg iv wq => ∃ (k : Nat) (P : List Nat) (M : List ByteArray), iv = .int .i64 k ∧ k ≤ n ∧ gg = n - k ∧ Hid (HSt w wq P M (totA (xs.take k))))
      case atStart => exact ⟨0, P, _, rfl, by omega, by omega, HS⟩
      case round =>
        clear HS
        obtain ⟨k, Q, M, rfl, hk, rfl, HS⟩ := hrel
        by_cases hgo : k < n
        · have hka : k < xs.length := by rw [← HNN.out]; exact hgo
          obtain ⟨a, ha⟩ : ∃ a, xs[k]? = some a := ⟨_, List.getElem?_eq_getElem hka⟩
          have hpl := HSC.out.place (by intro e; rw [e] at hka; simp at hka)
          subst hpl
          have hat := (HSC.out.acts k a ha).of_same HS.out.same
          have HTS : Hid (totA (xs.take (k + 1)) = totA (xs.take k) + (flat a.ss).length ∧ totA (xs.take (k + 1)) ≤ 1099511627776) := ⟨totA_snoc xs k a ha, Nat.le_trans (totA_take _ _) HTOT.out⟩
          obtain ⟨aon, ato, akd, ss, qa, qb, qo, qc⟩ := a
          have hc0 : wr.cell? ⟨sb, so + k * 4, none⟩ = some (.int .i64 aon) := hat.c0
          have hc1 : wr.cell? ⟨sb, so + k * 4 + 1, none⟩ = some (.int .i64 ato) := hat.c1
          have hc2 : wr.cell? ⟨sb, so + k * 4 + 2, none⟩ = some (.int .i64 akd) := hat.c2
          have hc3 : wr.cell? ⟨sb, so + k * 4 + 3, none⟩ = some (.slice qa ss.length qc) := hat.c3
          have HPT : Hid (SAt wr qa qb qo ss ∧ ss.length ≤ 4194304) := ⟨hat.parts, hat.len⟩
          have HPW : Hid (SAt w qa qb qo ss) := (HSC.out.acts k _ ha).parts
          obtain ⟨on, hon, hon4⟩ : ∃ m : Nat, aon % 4 = (m : Int) ∧ m < 4 := ⟨(aon % 4).toNat, by omega, by omega⟩
          obtain ⟨to, hto, hto4⟩ : ∃ m : Nat, ato % 4 = (m : Int) ∧ m < 4 := ⟨(ato % 4).toNat, by omega, by omega⟩
          obtain ⟨kd, hkd, hkd5⟩ : ∃ m : Nat, akd % 5 = (m : Int) ∧ m < 5 := ⟨(akd % 5).toNat, by omega, by omega⟩
          have P1 : Hid (∀ W, Calls Tryd.prog 9 #[.int .i64 aon, .int .i64 4] W fun e w' => e = .returned (.int .i64 (on : Int)) ∧ w' = W) := by
            intro W
            have := pick_calls W aon 4 (by omega) (by omega)
            rw [hon] at this
            exact this
          have P2 : Hid (∀ W, Calls Tryd.prog 9 #[.int .i64 ato, .int .i64 4] W fun e w' => e = .returned (.int .i64 (to : Int)) ∧ w' = W) := by
            intro W
            have := pick_calls W ato 4 (by omega) (by omega)
            rw [hto] at this
            exact this
          have P3 : Hid (∀ W, Calls Tryd.prog 9 #[.int .i64 akd, .int .i64 5] W fun e w' => e = .returned (.int .i64 (kd : Int)) ∧ w' = W) := by
            intro W
            have := pick_calls W akd 5 (by omega) (by omega)
            rw [hkd] at this
            exact this
          clear hat ha hon hto hkd
          go_wp2_with fail
          obtain ⟨V, hV⟩ : ∃ V, V = wr.alloc (.cells #[.int .i64 aon, .int .i64 ato, .int .i64 akd, .slice qa ss.length qc] 29) := ⟨_, rfl⟩
          rw [← hV]
          have sV : Same wr V := by rw [hV]; exact (Fr.refl _ wr).alloc _
          have rV : V.heap[wr.heap.size]? = some (.cells #[.int .i64 aon, .int .i64 ato, .int .i64 akd, .slice qa ss.length qc] 29 (0, 0)) := by rw [hV]; exact heap_alloc_new wr _
          have v1 : V.cell? ⟨wr.heap.size, 1, none⟩ = some (.int .i64 ato) := by rw [cell_of_row _ _ _ _ _ _ rV]; rfl
          have v2 : V.cell? ⟨wr.heap.size, 2, none⟩ = some (.int .i64 akd) := by rw [cell_of_row _ _ _ _ _ _ rV]; rfl
          have v3 : V.cell? ⟨wr.heap.size, 3, none⟩ = some (.slice qa ss.length qc) := by rw [cell_of_row _ _ _ _ _ _ rV]; rfl
          have HSV : Hid (HSt w V Q M (totA (xs.take k))) := HS.out.of_same sV
          have HVS : Hid (wr.heap.size ≤ V.heap.size) := sV.size
          have HPV : Hid (SAt V qa qb qo ss ∧ ss.length ≤ 4194304) := ⟨HPT.out.1.same sV, HPT.out.2⟩
          obtain ⟨b1, hb1⟩ : ∃ b, Q[on]? = some b := ⟨_, List.getElem?_eq_getElem (by rw [HSV.out.pl]; exact hon4)⟩
          obtain ⟨b2, hb2⟩ : ∃ b, Q[to]? = some b := ⟨_, List.getElem?_eq_getElem (by rw [HSV.out.pl]; exact hto4)⟩
          obtain ⟨m1, hm1⟩ : ∃ b, M[on]? = some b := ⟨_, List.getElem?_eq_getElem (by rw [HSV.out.ml]; exact hon4)⟩
          obtain ⟨m2, hm2⟩ : ∃ b, M[to]? = some b := ⟨_, List.getElem?_eq_getElem (by rw [HSV.out.ml]; exact hto4)⟩
          have HB : Hid (Q[on]? = some b1 ∧ Q[to]? = some b2 ∧ M[on]? = some m1 ∧ M[to]? = some m2) := ⟨hb1, hb2, hm1, hm2⟩
          obtain ⟨ch1, fh1⟩ := HSV.out.hcell hb1
          obtain ⟨ch2, fh2⟩ := HSV.out.hcell hb2
          obtain ⟨cw1, fw1⟩ := HSV.out.wcell hm1
          obtain ⟨cw2, fw2⟩ := HSV.out.wcell hm2
          have HLT : Hid (b1 < wr.heap.size ∧ w.heap.size + 2 ≤ b1 ∧ w.heap.size + 1 < wr.heap.size) := ⟨(HS.out.hash on b1 m1 hb1 hm1).lt, HS.out.new b1 (List.mem_of_getElem? hb1), lt_of_heap HS.out.wrow⟩
          have HHO : Hid (HashOf V b1 m1.data.toList) := HSV.out.hash on b1 m1 hb1 hm1
          have HLE : Hid (m1.size ≤ totA (xs.take k)) := HSV.out.size m1 (List.mem_of_getElem? hm1)
          have honI : (on : Int) < 4 := by omega
          have htoI : (to : Int) < 4 := by omega
          clear hV sV rV hb1 hb2 hm1 hm2 hc0 hc1 hc2 hc3 HS HPT
          refine (P1.out _).mono ?_
          rintro e W2 ⟨rfl, hW2⟩
          rw [hW2]
          clear hW2 W2
          go_wp2_with fail
          refine (P2.out _).mono ?_
          rintro e W2 ⟨rfl, hW2⟩
          rw [hW2]
          clear hW2 W2
          go_wp2_with fail
          refine (P3.out _).mono ?_
          rintro e W2 ⟨rfl, hW2⟩
          rw [hW2]
          clear hW2 W2 P1 P2 P3
          have hcases : kd = 0 ∨ kd = 1 ∨ kd = 2 ∨ kd = 3 ∨ kd = 4 := by omega
          clear hkd5
          rcases hcases with rfl | rfl | rfl | rfl | rfl
          · have HLN : Hid (Calls Tryd.prog 10 #[.slice qa ss.length qc] V fun e w' => ∃ g cap, e = .returned (.slice (some ⟨g, 0, none⟩) ss.length cap) ∧ Lent V w' ss g cap) := lent_calls HPV.out.1 HPV.out.2
            obtain ⟨sl, hsl⟩ : ∃ l, l = ss.length := ⟨_, rfl⟩
            have HSL : Hid (sl = ss.length) := hsl
            rw [← hsl] at HLN v3 ⊢
            clear hsl
            go_wp2_with fail
            refine HLN.out.mono ?_
            rintro e W2 ⟨g, cap, rfl, l2⟩
            have HL2 : Hid (Lent V W2 ss g cap) := l2
            have ch1' := l2.2.2.keep ch1
            have HWR : Hid (Calls Tryd.prog 11 #[.pointer (some ⟨b1, 0, none⟩), .slice (some ⟨g, 0, none⟩) sl cap] W2 fun e w' => e = .returned (.tuple #[]) ∧ HashOf w' b1 (m1.data.toList ++ flat ss) ∧ Fr (fun k => k = b1) W2 w') := by
              show Calls _ _ _ _ _
              rw [HSL.out]
              have q1 := HLT.out
              have q2 := HVS.out
              have q3 := HL2.out.2.1
              have q4 := HTS.out
              have q5 := HLE.out
              have q6 := HPV.out.2
              have q7 := bytes_length m1
              refine write_calls (HHO.out.same HL2.out.2.2) ss (some ⟨g, 0, none⟩) g 0 cap (fun _ => rfl) (by omega) (fun _ => own_lt HL2.out.1 rfl) ?_ (by omega) (by omega)
              intro j s hj
              rw [Nat.zero_add]
              exact HL2.out.cell j s (by rw [List.getElem?_append_left (by have := (List.getElem?_eq_some_iff.1 hj).1; omega)]; exact hj)
            clear l2
            go_wp2_with fail
            refine HWR.out.mono ?_
            rintro e W3 ⟨rfl, h3, s3⟩
            have q1 := HLT.out
            have q2 := HVS.out
            have q3 := HL2.out.2.1
            have s2 := HL2.out.2.2
            have sw3 : Same w W3 := Fr.trans (HSV.out.same.trans s2) s3 (fun i hi e => by omega)
            have HS3 : Hid (SAt W3 qa qb qo ss) := HPW.out.same sw3
            have HL3 : Hid (Lent w W3 ss g cap) := ⟨own_frame HL2.out.1 s3 (fun k hk e => by simp [Value.ownBlock] at hk; omega), by omega, sw3⟩
            have HKP : Hid (Calls Tryd.prog 12 #[.slice (some ⟨g, 0, none⟩) sl cap, .slice qa sl qc] W3 fun e w' => e = .returned (.bool true) ∧ Same W3 w') := by
              show Calls _ _ _ _ _
              rw [HSL.out]
              exact kept_calls HS3.out HPV.out.2 HL3.out
            have HC3 : Hid (∀ {a : Addr} {v : Value}, V.cell? a = some v → a.block ≠ b1 → W3.cell? a = some v) := by
              intro a v hc hb
              have hc2 := s2.keep hc
              exact (s3.cell (World.block_lt_of_cell? _ _ hc2) hb).trans hc2
            have u3 : W3.cell? ⟨wr.heap.size, 3, none⟩ = some (.slice qa sl qc) := HC3.out v3 (by simp only; omega)
            have uw : W3.cell? ⟨w.heap.size + 1, on, none⟩ = some (.string m1) := HC3.out cw1 (by simp only; omega)
            have HST : Hid (∀ (W' : World) (x : ByteArray), Same W3 W' → x.data.toList = m1.data.toList ++ flat ss → HSt w (W'.setCell ⟨w.heap.size + 1, on, none⟩ (.string x)) Q (M.set on x) (totA (xs.take (k + 1)))) := by
              intro W' x sx ex
              have q4 := HTS.out
              have q5 := HLE.out
              have hx : x.size = m1.size + (flat ss).length := by rw [← bytes_length, ex, List.length_append, bytes_length]
              refine (HSV.out.of_same s2).wrote HB.out.1 HB.out.2.2.1 (Fr.trans s3 sx (fun _ _ f => f.elim)) ?_ (by omega) (by omega)
              rw [ex]
              exact h3.same sx
            have R3 : W3.heap[w.heap.size + 1]? = some (.cells (strs4 M).toArray 25 (0, 0)) := by
              have r := (HSV.out.of_same s2).wrow
              exact (s3.block _ (lt_of_heap r) (by omega)).trans r
            have HFZ : Hid (∀ W, Same W3 W → W.frozen? ⟨w.heap.size + 1, on, none⟩ = false) := fun W s => frozen_of_row W (w.heap.size + 1) on _ _ ((s.block _ (lt_of_heap R3) (fun f => f)).trans R3)
            clear R3
            clear h3 q1 q2 q3 s2 ch1' ch1 ch2 fh1 fh2 cw1 cw2 fw1 fw2 v1 v2 v3
            go_wp2_with fail
            refine HKP.out.mono ?_
            rintro e W4 ⟨rfl, s4⟩
            have HJ : Hid (∀ W, Same W4 W → Calls Tryd.prog 13 #[.slice qa sl qc] W fun e w' => e = .returned (.string ⟨(flat ss).toArray⟩) ∧ Same W4 w') := by
              intro W s
              rw [HSL.out]
              have q4 := HTS.out
              exact (joined_calls (HS3.out.same (s4.trans s)) HPV.out.2 (by omega)).mono fun e w' h => ⟨h.1, s.trans h.2⟩
            have t3 := s4.keep u3
            have tw := s4.keep uw
            clear u3 uw
            obtain ⟨fx, hfx⟩ : ∃ f : ByteArray, f = ⟨(flat ss).toArray⟩ := ⟨_, rfl⟩
            obtain ⟨mx, hmx⟩ : ∃ f : ByteArray, m1 ++ fx = f := ⟨_, rfl⟩
            have HMX : Hid (mx.data.toList = m1.data.toList ++ flat ss) := by
              show _ = _
              rw [← hmx, hfx, ByteArray.data_append, Array.toList_append]
            have hfs : fx.size = (flat ss).length := by rw [hfx]; exact List.size_toArray
            have hsum : m1.size + fx.size ≤ 1099511627776 := by
              have q4 := HTS.out
              have q5 := HLE.out
              omega
            have hm1b : m1.size ≤ 1099511627776 := by omega
            have hfxb : fx.size ≤ 1099511627776 := by omega
            have hmxs : mx.size ≤ 1099511627776 := by
              have e := HMX.out
              have l1 := bytes_length mx
              rw [e, List.length_append, bytes_length] at l1
              omega
            rw [← hfx] at HJ
            clear hfx hfs
            go_wp2_with fail
            go_region_with (first | (go_at_call 13; refine (HJ.out _ (Fr.drew (Fr.refl _ _))).mono ?_; rintro e W5 ⟨rfl, s5⟩; have tw5 := s5.keep tw; have t35 := s5.keep t3; have fw5 := HFZ.out W5 (s4.trans s5)))
            all_goals
              go_wp2_with fail
              go_roundg (n - (k + 1))
              case measure => omega
              case rel => exact ⟨k + 1, Q, _, by go_num, by omega, rfl, HST.out W5 mx (s4.trans s5) HMX.out⟩
          · have hm1s : m1.data.toList.length = m1.size := bytes_length m1
            have hm1b : m1.size ≤ 1099511627776 := by
              have := HLE.out
              have h2 := HTS.out
              omega
            have GS : Hid (∀ W, Same V W → Calls Tryd.prog 14 #[.pointer (some ⟨b1, 0, none⟩)] W fun e w' => e = .returned (.agg (bcells (sha m1.data.toList)).toArray) ∧ Same V w') := fun W s => (hsum_calls (HHO.out.same s) (by omega)).mono fun e w' h => ⟨h.1, s.trans h.2⟩
            have GR : Hid (∀ W, Same V W → Calls Tryd.prog 15 #[.string m1] W fun e w' => e = .returned (.agg (bcells (sha m1.data.toList)).toArray) ∧ Same V w') := fun W s => (rsum_calls W m1 hm1b).mono fun e w' h => ⟨h.1, s.trans h.2⟩
            have hEq := eq_same (sha m1.data.toList) (sha_length _)
            have hS2 : ∀ W, Same V W → W.cell? ⟨w.heap.size, on, none⟩ = some (.pointer (some ⟨b1, 0, none⟩)) ∧ W.cell? ⟨w.heap.size + 1, on, none⟩ = some (.string m1) := fun W s => ⟨s.keep ch1, s.keep cw1⟩
            generalize (bcells (sha m1.data.toList)).toArray = X at *
            clear hm1s hm1b
            go_wp2_with fail
            go_region_held3 (fun w' => w'.cell? ⟨w.heap.size, on, none⟩ = some (.pointer (some ⟨b1, 0, none⟩)) ∧ w'.cell? ⟨w.heap.size + 1, on, none⟩ = some (.string m1)) (first | go_keep | exact hS2 _ (by assumption))
              (first | (go_at_call 14; refine (GS.out _ (Fr.drew (Fr.refl _ _))).mono ?_; rintro e W6 ⟨rfl, s6⟩) | (go_at_call 15; refine (GR.out _ s6).mono ?_; rintro e W7 ⟨rfl, s7⟩))
            go_wp2_with fail
            go_roundg (n - (k + 1))
            case measure => omega
            case rel => exact ⟨k + 1, Q, M, by go_num, by omega, rfl, (HSV.out.of_same s7).grow (by have := HTS.out.1; omega)⟩
          · have GL : Hid (∀ W, Same V W → Calls Tryd.prog 16 #[.pointer (some ⟨b1, 0, none⟩)] W fun e w' => e = .returned (.int .i64 (m1.size : Int)) ∧ w' = W) := by
              intro W s
              have h := len_calls (HHO.out.same s)
              rw [bytes_length] at h
              exact h
            go_wp2_with fail
            go_region_held3 (fun w' => w'.cell? ⟨w.heap.size, on, none⟩ = some (.pointer (some ⟨b1, 0, none⟩)) ∧ w'.cell? ⟨w.heap.size + 1, on, none⟩ = some (.string m1)) (first | go_keep)
              (first | (go_at_call 16; refine (GL.out _ (Fr.drew (Fr.refl _ _))).mono ?_; rintro e W6 ⟨rfl, rfl⟩))
            all_goals
              go_wp2_with fail
              go_roundg (n - (k + 1))
              case measure => omega
              case rel => exact ⟨k + 1, Q, M, by go_num, by omega, rfl, (HSV.out.of_same (Fr.drew (Fr.refl _ _))).grow (by have := HTS.out.1; omega)⟩
          · have HCL : Hid (Calls Tryd.prog 17 #[.pointer (some ⟨b1, 0, none⟩)] V fun e w' => e = .returned (.pointer (some ⟨V.heap.size, 0, none⟩)) ∧ HashOf w' V.heap.size m1.data.toList ∧ Same V w') := clone_calls HHO.out
            go_wp2_with fail
            refine HCL.out.mono ?_
            rintro e W6 ⟨rfl, h6, s6⟩
            have hst := HSV.out.of_same s6
            obtain ⟨x1, x2⟩ := hst.hcell HB.out.2.1
            obtain ⟨y1, _⟩ := hst.later to (.pointer (some ⟨V.heap.size, 0, none⟩)) HB.out.2.2.1
            obtain ⟨z1, z2⟩ := hst.later to (.pointer (some ⟨V.heap.size, 0, none⟩)) HB.out.2.2.2
            have HRE : Hid (HSt w ((W6.setCell ⟨w.heap.size, to, none⟩ (.pointer (some ⟨V.heap.size, 0, none⟩))).setCell ⟨w.heap.size + 1, to, none⟩ (.string m1)) (Q.set to V.heap.size) (M.set to m1) (totA (xs.take k))) := HSV.out.lay s6 hto4 (Nat.le_refl _) h6 HLE.out
            clear hst h6 s6 ch1 fh1 ch2 fh2 cw1 fw1 cw2 fw2 v1 v2 v3
            go_wp2_with fail
            go_roundg (n - (k + 1))
            case measure => omega
            case rel => exact ⟨k + 1, _, _, by go_num, by omega, rfl, HRE.out.grow (by have := HTS.out.1; omega)⟩
          · go_wp2_with fail
            refine (HN.out _).mono ?_
            rintro e W6 ⟨rfl, h6, s6⟩
            have hst := HSV.out.of_same s6
            obtain ⟨x1, x2⟩ := hst.hcell HB.out.2.1
            obtain ⟨z1, z2⟩ := hst.later to (.pointer (some ⟨V.heap.size, 0, none⟩)) HB.out.2.2.2
            have HRE : Hid (HSt w ((W6.setCell ⟨w.heap.size, to, none⟩ (.pointer (some ⟨V.heap.size, 0, none⟩))).setCell ⟨w.heap.size + 1, to, none⟩ (.string ⟨#[]⟩)) (Q.set to V.heap.size) (M.set to ⟨#[]⟩) (totA (xs.take k))) := HSV.out.lay s6 hto4 (Nat.le_refl _) h6 (Nat.zero_le _)
            clear hst h6 s6 ch1 fh1 ch2 fh2 cw1 fw1 cw2 fw2 v1 v2 v3
            go_wp2_with fail
            go_roundg (n - (k + 1))
            case measure => omega
            case rel => exact ⟨k + 1, _, _, by go_num, by omega, rfl, HRE.out.grow (by have := HTS.out.1; omega)⟩
        · clear HN HNN
          have hNb : totA (xs.take k) ≤ 1099511627776 := Nat.le_trans (totA_take _ _) HTOT.out
          generalize totA (xs.take k) = N at *
          have hkn : ¬ (k : Int) < (n : Int) := by omega
          go_wp2_with fail
          generalize wr = W8 at *
          go_loopg [12] 4 (fun gg iv wq => ∃ i : Nat, iv = .int .i64 i ∧ i ≤ 4 ∧ gg = 4 - i ∧ Hid (HSt w wq Q M N))
          case atStart => exact ⟨0, rfl, by omega, rfl, HS⟩
          case round =>
            clear HS
            obtain ⟨i, rfl, hi, rfl, HS⟩ := hrel
            by_cases hg4 : i < 4
            · obtain ⟨b1, hb1⟩ : ∃ b, Q[i]? = some b := ⟨_, List.getElem?_eq_getElem (by rw [HS.out.pl]; exact hg4)⟩
              obtain ⟨m1, hm1⟩ : ∃ b, M[i]? = some b := ⟨_, List.getElem?_eq_getElem (by rw [HS.out.ml]; exact hg4)⟩
              obtain ⟨ch1, _⟩ := HS.out.hcell hb1
              obtain ⟨cw1, _⟩ := HS.out.wcell hm1
              have HHO : Hid (HashOf wr b1 m1.data.toList) := HS.out.hash i b1 m1 hb1 hm1
              have hm1b : m1.size ≤ 1099511627776 := Nat.le_trans (HS.out.size m1 (List.mem_of_getElem? hm1)) hNb
              have hm1s : m1.data.toList.length = m1.size := bytes_length m1
              have GS : Hid (∀ W, Same wr W → Calls Tryd.prog 14 #[.pointer (some ⟨b1, 0, none⟩)] W fun e w' => e = .returned (.agg (bcells (sha m1.data.toList)).toArray) ∧ Same wr w') := fun W s => (hsum_calls (HHO.out.same s) (by omega)).mono fun e w' h => ⟨h.1, s.trans h.2⟩
              have GR : Hid (∀ W, Same wr W → Calls Tryd.prog 15 #[.string m1] W fun e w' => e = .returned (.agg (bcells (sha m1.data.toList)).toArray) ∧ Same wr w') := fun W s => (rsum_calls W m1 hm1b).mono fun e w' h => ⟨h.1, s.trans h.2⟩
              have GL : Hid (∀ W, Same wr W → Calls Tryd.prog 16 #[.pointer (some ⟨b1, 0, none⟩)] W fun e w' => e = .returned (.int .i64 (m1.size : Int)) ∧ Same wr w') := by
                intro W s
                have h := len_calls (HHO.out.same s)
                rw [bytes_length] at h
                exact h.mono fun e w' h => ⟨h.1, by rw [h.2]; exact s⟩
              have hEq := eq_same (sha m1.data.toList) (sha_length _)
              have hS2 : ∀ W, Same wr W → W.cell? ⟨w.heap.size, i, none⟩ = some (.pointer (some ⟨b1, 0, none⟩)) ∧ W.cell? ⟨w.heap.size + 1, i, none⟩ = some (.string m1) := fun W s => ⟨s.keep ch1, s.keep cw1⟩
              generalize (bcells (sha m1.data.toList)).toArray = X at *
              have hiI : (i : Int) < 4 := by omega
              clear hm1s hm1b hb1 hm1
              go_wp2_with fail
              go_region_held3 (fun w' => w'.cell? ⟨w.heap.size, i, none⟩ = some (.pointer (some ⟨b1, 0, none⟩)) ∧ w'.cell? ⟨w.heap.size + 1, i, none⟩ = some (.string m1)) (first | go_keep | exact hS2 _ (by assumption))
                (first | (go_at_call 14; refine (GS.out _ (Fr.drew (Fr.refl _ _))).mono ?_; rintro e W6 ⟨rfl, s6⟩) | (go_at_call 15; refine (GR.out _ s6).mono ?_; rintro e W7 ⟨rfl, s7⟩) | (go_at_call 16; refine (GL.out _ s7).mono ?_; rintro e W10 ⟨rfl, s10⟩))
              all_goals
                go_wp2_with fail
                go_roundg (4 - (i + 1))
                case measure => omega
                case rel => exact ⟨i + 1, by go_num, by omega, rfl, HS.out.of_same s10⟩
            · obtain rfl : i = 4 := by omega
              have sw := HS.out.same
              go_wp2_with fail
              refine (HA.out _ sw).mono ?_
              rintro e W6 ⟨rfl, s6⟩
              go_wp2_with fail
              go_ret
              exact ⟨rfl, sw.trans s6⟩
end Go.Proofs.YthkhfblpdekjhaaDoor
