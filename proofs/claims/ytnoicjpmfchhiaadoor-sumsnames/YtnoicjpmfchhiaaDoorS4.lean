/-
  Walks: schedule.
-/
import Derived.Test.YtnoicjpmfchhiaaDoorS3
import Derived.Deep.MidRow
import Derived.Deep.RegionWith
import Derived.Deep.RegionHeld3
namespace Go.Proofs.YtnoicjpmfchhiaaDoor
open Go.RowKit

def bcells (bs : List UInt8) : List Value := bs.map fun b => Value.int .u8 b.toNat
theorem bcells_append (a b : List UInt8) : bcells (a ++ b) = bcells a ++ bcells b := by simp [bcells]
theorem bcells_length (a : List UInt8) : (bcells a).length = a.length := by simp [bcells]
def wcells (l : List UInt32) : List Value := l.map fun x => Value.int .u32 x.toNat
theorem wcells_length (a : List UInt32) : (wcells a).length = a.length := by simp [wcells]
theorem wcells_set (l : List UInt32) (k : Nat) (x : UInt32) : (wcells l).set k (.int .u32 x.toNat) = wcells (l.set k x) := by
  simp [wcells, List.map_set]

/-- A byte more in the words of a block. -/
def putW (l : List UInt32) (k : Nat) (b : UInt8) : List UInt32 := l.set (k / 4) ((l.getD (k / 4) 0 <<< 8) ||| b.toUInt32)
def fillW (bs : List UInt8) : Nat → List UInt32
  | 0 => List.replicate 64 0
  | k + 1 => putW (fillW bs k) k (bs.getD k 0)
theorem fillW_length (bs : List UInt8) (k : Nat) : (fillW bs k).length = 64 := by
  induction k with
  | zero => simp [fillW]
  | succ k ih => simp [fillW, putW, ih]

theorem wrow_cell {w : World} {b k : Nat} {l : List UInt32} {t : TypeId} (h : w.heap[b]? = some (.cells (wcells l).toArray t (0, 0))) (hk : k < l.length) : w.cell? ⟨b, k, none⟩ = some (.int .u32 ((l.getD k 0).toNat : Int)) := by
  rw [cell_of_row _ _ _ _ _ _ h]
  simp [wcells, hk]

theorem setCells_row {w : World} {b : Nat} {t : TypeId} (vs : List Value) (o : Nat) (old : Array Value) (h : w.heap[b]? = some (.cells old t (0, 0))) : ∃ A, (w.setCells b o vs).heap[b]? = some (.cells A t (0, 0)) ∧ A.size = old.size := by
  induction vs generalizing w o old with
  | nil => exact ⟨old, h, rfl⟩
  | cons v vs ih =>
    obtain ⟨A, h1, h2⟩ := ih (o + 1) _ (heap_setCell_same w b o old t v h)
    exact ⟨A, h1, by rw [h2]; simp⟩
theorem setCells_whole {w : World} {b : Nat} {t : TypeId} (vs : List Value) (old : Array Value) (h : w.heap[b]? = some (.cells old t (0, 0))) (hl : old.size = vs.length) (ht : w.there b 0 vs.length) : (w.setCells b 0 vs).heap[b]? = some (.cells vs.toArray t (0, 0)) := by
  obtain ⟨A, h1, h2⟩ := setCells_row vs 0 old h
  have hr := World.rangeAt_setCells_same w b 0 vs ht
  have : A = vs.toArray := by
    apply Array.ext
    · simpa using h2.trans hl
    · intro j hj1 hj2
      have hj3 : j < vs.length := by simpa using hj2
      have := hr j vs[j] (List.getElem?_eq_getElem hj3)
      rw [Nat.zero_add, cell_of_row _ _ _ _ _ _ h1, Array.getElem?_eq_getElem hj1] at this
      injection this with this
  rw [h1, this]
theorem Fr.setCells {S : Nat → Prop} {a : World} {b : Nat} (hb : b < a.heap.size → S b) (vs : List Value) : ∀ (o : Nat) (w : World), Fr S a w → Fr S a (w.setCells b o vs) := by
  induction vs with
  | nil => intro o w h; exact h
  | cons v vs ih => intro o w h; exact ih (o + 1) _ (h.setCell (p := ⟨b, o, none⟩) hb v)
theorem there_row {w : World} {b n : Nat} {t : TypeId} {old : Array Value} (h : w.heap[b]? = some (.cells old t (0, 0))) (hn : n = old.size) : w.there b 0 n := by
  intro j hj
  rw [Nat.zero_add]
  refine ⟨?_, frozen_of_row w b j old t h⟩
  rw [cell_of_row _ _ _ _ _ _ h, Array.getElem?_eq_getElem (by omega)]; rfl
theorem wrow_set {w : World} {b k : Nat} {l : List UInt32} {t : TypeId} (h : w.heap[b]? = some (.cells (wcells l).toArray t (0, 0))) (x : UInt32) : (w.setCell ⟨b, k, none⟩ (.int .u32 x.toNat)).heap[b]? = some (.cells (wcells (l.set k x)).toArray t (0, 0)) := by
  rw [heap_setCell_same w b k _ t _ h, ← wcells_set]; simp

theorem extW_succ (n : Nat) : ∀ l, extW (n + 1) l = extW n l ++ [nextW (extW n l)] := by
  induction n with
  | zero => intro l; rfl
  | succ n ih => intro l; rw [extW, ih]; rfl
theorem extW_length (n : Nat) : ∀ l, (extW n l).length = l.length + n := by
  induction n with
  | zero => intro l; rfl
  | succ n ih => intro l; rw [extW, ih]; simp; omega
theorem words4_length (n : Nat) : ∀ bs : List UInt8, bs.length = 4 * n → (words4 bs).length = n := by
  induction n with
  | zero => intro bs h; rw [List.eq_nil_of_length_eq_zero (by omega : bs.length = 0)]; rfl
  | succ n ih =>
    intro bs h
    match bs, h with
    | a :: b :: c :: d :: r, h => rw [words4, List.length_cons, ih r (by simp at h; omega)]
    | [], h => simp at h
    | [_], h => simp at h; omega
    | [_, _], h => simp at h; omega
    | [_, _, _], h => simp at h; omega
/-- Bytes that come in from the place 4 n on. -/
def fillL : List UInt8 → Nat → List UInt32 → List UInt32
  | [], _, l => l
  | b :: r, k, l => fillL r (k + 1) (putW l k b)
theorem fillL_snoc (a : List UInt8) (b : UInt8) : ∀ k l, fillL (a ++ [b]) k l = putW (fillL a k l) (k + a.length) b := by
  induction a with
  | nil => intro k l; rfl
  | cons c a ih => intro k l; rw [List.cons_append, fillL, ih, fillL, List.length_cons]; congr 1; omega
theorem fillW_eq (bs : List UInt8) : ∀ k, k ≤ bs.length → fillW bs k = fillL (bs.take k) 0 (List.replicate 64 0) := by
  intro k
  induction k with
  | zero => intro _; rfl
  | succ k ih =>
    intro h
    rw [fillW, ih (by omega), List.take_succ_eq_append_getElem (by omega), fillL_snoc]
    generalize List.replicate 64 (0 : UInt32) = zs
    simp [List.length_take, Nat.min_eq_left (by omega : k ≤ bs.length), show k < bs.length from by omega]
theorem put4 (a b c d : UInt8) (u : List UInt32) (v : List UInt32) (n : Nat) (hu : u.length = n) : putW (putW (putW (putW (u ++ 0 :: v) (4 * n) a) (4 * n + 1) b) (4 * n + 2) c) (4 * n + 3) d = u ++ be4 a b c d :: v := by
  have e0 : 4 * n / 4 = n := by omega
  have e1 : (4 * n + 1) / 4 = n := by omega
  have e2 : (4 * n + 2) / 4 = n := by omega
  have e3 : (4 * n + 3) / 4 = n := by omega
  have g : ∀ x : UInt32, (u ++ x :: v).getD n 0 = x := by
    intro x
    rw [List.getD_eq_getElem?_getD, List.getElem?_append_right (by omega), hu]
    simp
  have st : ∀ x y : UInt32, (u ++ x :: v).set n y = u ++ y :: v := by
    intro x y
    rw [List.set_append_right _ _ (by omega), hu]
    simp
  simp only [putW, e0, e1, e2, e3, g, st]
  congr 2
  simp [be4]
theorem fillL_words (n : Nat) : ∀ (bs : List UInt8) (u : List UInt32) (m : Nat), bs.length = 4 * n → n ≤ m → fillL bs (4 * u.length) (u ++ List.replicate m 0) = u ++ words4 bs ++ List.replicate (m - n) 0 := by
  induction n with
  | zero =>
    intro bs u m h _
    rw [List.eq_nil_of_length_eq_zero (by omega : bs.length = 0)]
    simp [fillL, words4]
  | succ n ih =>
    intro bs u m h hm
    obtain ⟨m, rfl⟩ : ∃ m', m = m' + 1 := ⟨m - 1, by omega⟩
    match bs, h with
    | a :: b :: c :: d :: r, h =>
      rw [fillL, fillL, fillL, fillL, List.replicate_succ, put4 a b c d u _ u.length rfl]
      have := ih r (u ++ [be4 a b c d]) m (by simp at h; omega) (by omega)
      rw [List.length_append, List.length_singleton] at this
      rw [show u ++ be4 a b c d :: List.replicate m 0 = u ++ [be4 a b c d] ++ List.replicate m 0 from by simp, show 4 * u.length + 1 + 1 + 1 + 1 = 4 * (u.length + 1) from by omega, this, words4]
      rw [show m + 1 - (n + 1) = m - n from by omega]
      simp
    | [], h => simp at h
    | [_], h => simp at h; omega
    | [_, _], h => simp at h; omega
    | [_, _, _], h => simp at h; omega
theorem fill64 (bs : List UInt8) (h : bs.length = 64) : fillW bs 64 = words4 bs ++ List.replicate 48 0 := by
  rw [fillW_eq bs 64 (by omega), List.take_of_length_le (by omega)]
  have := fillL_words 16 bs [] 64 h (by omega)
  simpa using this
/-- A stretch that ends in one way. -/
theorem wp_one {P : Program} {c : Code} {Q : Exit → Act → World → Prop} {a A : Act} {w W : World} (h : c.wp P (Exit.then (fun a' w' => a' = A ∧ w' = W) (fun _ _ _ => False)) a w) (hq : Q .normal A W) : c.wp P Q a w := by
  refine wp_mono h ?_
  intro e a' w' hx
  cases e with
  | normal =>
    obtain ⟨rfl, rfl⟩ : a' = A ∧ w' = W := hx
    exact hq
  | exit _ => exact False.elim hx
  | goto _ => exact False.elim hx
  | ret => exact False.elim hx
  | panic _ => exact False.elim hx
  | outgrown => exact False.elim hx
theorem run_index_agg {P : Program} (w : World) (t e : TypeId) (n : Nat) (A : Array Value) (kd : IntKind) (k : Nat) (v : Value) (ht : P.underlying t = some (.array n e)) (hk : k < n) (hv : A[k]? = some v) (ha : (isAgg e).run P w = .ok false w) (hs : (sizeOf e).run P w = .ok 1 w) :
    (Instr.index t (.agg A) (.int kd (k : Int))).run P w = .ok v w := by
  simp [Instr.index, run_underlying ht, asIntOf, part, ha, hs, hk, hv, go_sem]
theorem heap_alloc3_new (w : World) (A B C : Obj) : (((w.alloc A).alloc B).alloc C).heap[w.heap.size + 1 + 1]? = some C := by
  have := heap_alloc_new ((w.alloc A).alloc B) C
  simpa using this
theorem heap_alloc3_mid (w : World) (A B C : Obj) : (((w.alloc A).alloc B).alloc C).heap[w.heap.size + 1]? = some B := by
  rw [Below.heap_alloc _ _ _ (by simp)]
  exact heap_alloc2_new w A B
theorem Tryd.aggU8 (W : World) : (isAgg 5).run Tryd.prog W = .ok false W := by kernel_rfl
theorem Tryd.szU8 (W : World) : (sizeOf 5).run Tryd.prog W = .ok 1 W := by kernel_rfl
theorem Tryd.ainfo69 : (Tryd.prog.info? 69).map (·.size) = some 64 := by kernel_rfl
theorem Tryd.ainfo36 : (Tryd.prog.info? 63).map (·.size) = some 64 := by kernel_rfl

set_option maxRecDepth 100000 in
set_option maxHeartbeats 4000000 in
theorem sched_calls (w : World) (bs : List UInt8) (hb : bs.length = 64) : Calls Tryd.prog 36 #[.agg (bcells bs).toArray] w fun e w' => e = .returned (.agg (wcells (extW 48 (words4 bs))).toArray) ∧ Same w w' := by
  obtain ⟨A, hA⟩ : ∃ A, A = (bcells bs).toArray := ⟨_, rfl⟩
  have hAs : A.size = 64 := by rw [hA]; simp [bcells, hb]
  have hAk : Hid (∀ k : Nat, k < 64 → A[k]? = some (.int .u8 ((bs.getD k 0).toNat : Int))) := by
    intro k hk
    rw [hA]
    simp [bcells, hb, hk]
  have hone : A.all (·.oneCell') = true := by
    rw [hA]
    exact all_oneCell_toArray (by intro v hv; simp only [bcells, List.mem_map] at hv; obtain ⟨c, _, rfl⟩ := hv; rfl)
  have hsz : (Tryd.prog.info? 63).map (·.size) = some A.size := by rw [Tryd.ainfo36, hAs]
  rw [← hA]
  have HA : Hid (A = (bcells bs).toArray) := hA
  clear hA
  have hbx : ∀ o1 o2, (((w.alloc (.cells A 63)).alloc o1).alloc o2).heap[w.heap.size]? = some (.cells A 63 (0, 0)) := by
    intro o1 o2
    rw [Below.heap_alloc _ _ _ (by simp; omega), Below.heap_alloc _ _ _ (by simp)]
    exact heap_alloc_new w _
  have hF := fill64 bs hb
  obtain ⟨l16, hl16⟩ : ∃ l, l = words4 bs := ⟨_, rfl⟩
  have hl16n : l16.length = 16 := by rw [hl16]; exact words4_length 16 bs hb
  rw [← hl16] at hF ⊢
  have HF : Hid (∀ k m, k = 64 → m = 48 → fillW bs k = l16 ++ List.replicate m 0) := by
    intro k m h1 h2
    rw [h1, h2]; exact hF
  obtain ⟨R, hR⟩ : ∃ R, R = (wcells (extW 48 l16)).toArray := ⟨_, rfl⟩
  have hRs : R.size = 64 := by rw [hR]; simp [wcells, extW_length, hl16n]
  have hRone : Hid (R.all (·.oneCell') = true) := by
    show _ = _
    rw [hR]
    exact all_oneCell_toArray (by intro v hv; simp only [wcells, List.mem_map] at hv; obtain ⟨c, _, rfl⟩ := hv; rfl)
  have hRsz : Hid ((Tryd.prog.info? 69).map (·.size) = some R.size) := by
    show _ = _
    rw [Tryd.ainfo69, hRs]
  have HRs : Hid (R.size = 64) := hRs
  have HL : Hid (l16.length = 16) := hl16n
  rw [← hR]
  have HR : Hid (∀ m, m = 48 → R = (wcells (extW m l16)).toArray) := by
    intro m hm
    rw [hm]; exact hR
  clear hF hl16 hR hRs hl16n
  go_enter Tryd.func36, Tryd.ntmps36
  go_wp2_with (first | (refine wpList_load_row (by rfl) 63 _ (by rfl) w.heap.size (by rfl) 63 A (0, 0) _ (hbx _ _) Tryd.underlying63 rfl hsz ?_))
  clear hsz hone hbx hAs hb
  go_loopg [10] 64 (fun g iv wr => ∃ (k : Nat) (Z : Array Value), iv = .int .i64 k ∧ k ≤ 64 ∧ g = 64 - k ∧ wr.heap[w.heap.size + 1 + 1]? = some (.cells (wcells (fillW bs k)).toArray 69 (0, 0)) ∧ wr.heap[w.heap.size + 1]? = some (.cells Z 69 (0, 0)) ∧ Z.size = 64 ∧ Same w wr)
  case atStart => exact ⟨0, _, rfl, by omega, rfl, heap_alloc3_new w _ _ _, heap_alloc3_mid w _ _ _, rfl, (((Fr.refl _ w).alloc _).alloc _).alloc _⟩
  case round =>
    obtain ⟨k, Z, rfl, hk, rfl, hrow, hres, hZ, hst⟩ := hrel
    have hfl := fillW_length bs k
    by_cases hgo : k < 64
    · obtain ⟨x, hx⟩ : ∃ x, x = (fillW bs k).getD (k / 4) 0 := ⟨_, rfl⟩
      obtain ⟨c, hc⟩ : ∃ c, c = bs.getD k 0 := ⟨_, rfl⟩
      obtain ⟨y, hy⟩ : ∃ y, y = x <<< 8 := ⟨_, rfl⟩
      obtain ⟨z, hz⟩ : ∃ z, z = y ||| c.toUInt32 := ⟨_, rfl⟩
      have hAk' := hAk.out k hgo
      rw [← hc] at hAk'
      have hix : (Instr.index 63 (.agg A) (.int .i64 (k : Int))).run Tryd.prog wr = .ok (.int .u8 (c.toNat : Int)) wr := run_index_agg wr 63 5 64 A .i64 k _ Tryd.underlying63 hgo hAk' (Tryd.aggU8 wr) (Tryd.szU8 wr)
      have hcell : wr.cell? ⟨w.heap.size + 1 + 1, k / 4, none⟩ = some (.int .u32 (x.toNat : Int)) := by rw [hx]; exact wrow_cell hrow (by omega)
      have hfx := frozen_of_row wr (w.heap.size + 1 + 1) (k / 4) _ _ hrow
      have el : IntKind.u32.wrap ((x.toNat : Int) * (256 : Int)) = (y.toNat : Int) := by rw [hy]; exact l32 x 8 (by decide)
      have eo : bits .or .u32 (y.toNat : Int) ((c.toNat : Int) % 4294967296) = (z.toNat : Int) := by
        have := c.toNat_lt
        rw [hz, ← o32, UInt8.toNat_toUInt32, Int.emod_eq_of_lt (by omega) (by omega)]
      have HZ : Hid (fillW bs (k + 1) = (fillW bs k).set (k / 4) z) := by
        show _ = _
        rw [fillW, putW, ← hx, ← hc, hz, hy]
      have HROW : Hid (wr.heap[w.heap.size + 1 + 1]? = some (.cells (wcells (fillW bs k)).toArray 69 (0, 0))) := hrow
      have HRES : Hid (wr.heap[w.heap.size + 1]? = some (.cells Z 69 (0, 0))) := hres
      have hd : (k : Int).tdiv 4 = ((k / 4 : Nat) : Int) := by rw [Int.tdiv_eq_ediv_of_nonneg (by omega)]; omega
      clear hx hc hy hz hrow hres
      go_wp2_with fail
      go_roundg (64 - (k + 1))
      case measure => omega
      case rel =>
       refine ⟨k + 1, Z, by go_num, by omega, rfl, ?_, ?_, hZ, ?_⟩
       · rw [HZ.out, wrow_set (wrow_set HROW.out y) z, List.set_set]
       · rw [heap_setCell_other _ _ _ _ (by simp), heap_setCell_other _ _ _ _ (by simp)]; exact HRES.out
       · exact (hst.setCell (p := ⟨w.heap.size + 1 + 1, k / 4, none⟩) (fun h => by simp only at h; omega) _).setCell (p := ⟨w.heap.size + 1 + 1, k / 4, none⟩) (fun h => by simp only at h; omega) _
    · have hk64 : k = 64 := by omega
      obtain ⟨m, hm⟩ : ∃ m, m = 48 := ⟨_, rfl⟩
      rw [HF.out k m hk64 hm] at hrow
      have hm' : m ≤ 48 ∧ 48 ≤ m := by omega
      have HM : Hid (m = 48) := hm
      clear hk64 hm
      clear hfl
      have HROW : Hid (wr.heap[w.heap.size + 1 + 1]? = some (.cells (wcells (l16 ++ List.replicate m 0)).toArray 69 (0, 0))) := hrow
      have HRES : Hid (wr.heap[w.heap.size + 1]? = some (.cells Z 69 (0, 0))) := hres
      clear hrow hres
      go_wp2_with fail
      go_loopg [6] m (fun g iv wq => ∃ (j : Nat), iv = .int .i64 ((j + 16 : Nat) : Int) ∧ j ≤ m ∧ g = m - j ∧ wq.heap[w.heap.size + 1 + 1]? = some (.cells (wcells (extW j l16 ++ List.replicate (m - j) 0)).toArray 69 (0, 0)) ∧ wq.heap[w.heap.size + 1]? = some (.cells Z 69 (0, 0)) ∧ Same w wq)
      case atStart => exact ⟨0, rfl, by omega, rfl, HROW.out, HRES.out, hst⟩
      case round =>
        clear HROW HRES hst
        obtain ⟨j, rfl, hj, rfl, hrow, hres, hst⟩ := hrel
        by_cases hgo : j < m
        · obtain ⟨L, hL⟩ : ∃ L, L = extW j l16 := ⟨_, rfl⟩
          have hLn : L.length = j + 16 := by rw [hL, extW_length, HL.out]; omega
          have HLL : Hid (L = extW j l16 ∧ L.length = j + 16) := ⟨hL, hLn⟩
          rw [← hL] at hrow
          have hLL : (L ++ List.replicate (m - j) 0).length = 64 := by simp [hLn]; omega
          obtain ⟨i, hi⟩ : ∃ i, i = j + 16 := ⟨_, rfl⟩
          have hi16 : 16 ≤ i ∧ i < 64 := by omega
          have hi0 : (0 : Int) ≤ (i : Int) := by omega
          have hi1 : (i : Int) < 64 := by omega
          rw [← hi] at hLn ⊢
          have HI : Hid (i = j + 16) := hi
          have cl : ∀ m : Nat, m < i → wr.cell? ⟨w.heap.size + 1 + 1, m, none⟩ = some (.int .u32 ((L.getD m 0).toNat : Int)) := by
            intro m hm
            rw [wrow_cell hrow (by omega)]
            rw [List.getD_eq_getElem?_getD, List.getElem?_append_left (by omega), ← List.getD_eq_getElem?_getD]
          have c1 := cl (i - 15) (by omega)
          have c2 := cl (i - 2) (by omega)
          have c3 := cl (i - 16) (by omega)
          have c4 := cl (i - 7) (by omega)
          have c5 : wr.cell? ⟨w.heap.size + 1 + 1, i, none⟩ = some (.int .u32 (((L ++ List.replicate (m - j) 0).getD (i) 0).toNat : Int)) := wrow_cell hrow (by omega)
          have hfx := frozen_of_row wr (w.heap.size + 1 + 1) (i) _ _ hrow
          clear cl
          generalize hx1 : L.getD (i - 15) 0 = x1 at *
          generalize hx2 : L.getD (i - 2) 0 = x2 at *
          generalize hx3 : L.getD (i - 16) 0 = x3 at *
          generalize hx4 : L.getD (i - 7) 0 = x4 at *
          generalize (L ++ List.replicate (m - j) 0).getD (i) 0 = x5 at *
          obtain ⟨s1, hs1⟩ : ∃ s, s = x3 + x4 := ⟨_, rfl⟩
          have es1 : IntKind.u32.wrap ((x3.toNat : Int) + (x4.toNat : Int)) = (s1.toNat : Int) := by rw [hs1]; exact p32 x3 x4
          have T7 : Hid (∀ W, Calls Tryd.prog 37 #[.int .u32 x1.toNat, .int .i64 7] W fun e w' => e = .returned (.int .u32 (rotr x1 7).toNat) ∧ w' = W) := fun W => turn7 W x1
          have T18 : Hid (∀ W, Calls Tryd.prog 37 #[.int .u32 x1.toNat, .int .i64 18] W fun e w' => e = .returned (.int .u32 (rotr x1 18).toNat) ∧ w' = W) := fun W => turn18 W x1
          have T17 : Hid (∀ W, Calls Tryd.prog 37 #[.int .u32 x2.toNat, .int .i64 17] W fun e w' => e = .returned (.int .u32 (rotr x2 17).toNat) ∧ w' = W) := fun W => turn17 W x2
          have T19 : Hid (∀ W, Calls Tryd.prog 37 #[.int .u32 x2.toNat, .int .i64 19] W fun e w' => e = .returned (.int .u32 (rotr x2 19).toNat) ∧ w' = W) := fun W => turn19 W x2
          have eq1 := x32 (rotr x1 7) (rotr x1 18)
          have eh1 : (x1.toNat : Int) / (8 : Int) = ((x1 >>> 3).toNat : Int) := r32 x1 3 (by decide)
          have eq2 := x32 (rotr x1 7 ^^^ rotr x1 18) (x1 >>> 3)
          have es2 := p32 s1 (rotr x1 7 ^^^ rotr x1 18 ^^^ (x1 >>> 3))
          have eq3 := x32 (rotr x2 17) (rotr x2 19)
          have eh3 : (x2.toNat : Int) / (1024 : Int) = ((x2 >>> 10).toNat : Int) := r32 x2 10 (by decide)
          have eq4 := x32 (rotr x2 17 ^^^ rotr x2 19) (x2 >>> 10)
          have es3 := p32 (s1 + (rotr x1 7 ^^^ rotr x1 18 ^^^ (x1 >>> 3))) (rotr x2 17 ^^^ rotr x2 19 ^^^ (x2 >>> 10))
          obtain ⟨s3, hs3⟩ : ∃ s, s = s1 + (rotr x1 7 ^^^ rotr x1 18 ^^^ (x1 >>> 3)) + (rotr x2 17 ^^^ rotr x2 19 ^^^ (x2 >>> 10)) := ⟨_, rfl⟩
          have HS : Hid (s3 = nextW L) := by
            show _ = _
            rw [hs3, hs1, ← hx1, ← hx2, ← hx3, ← hx4]
            unfold nextW sg0 sg1
            rw [hLn]
          rw [← hs3] at es3
          generalize s1 + (rotr x1 7 ^^^ rotr x1 18 ^^^ (x1 >>> 3)) = s2 at *
          generalize rotr x1 7 ^^^ rotr x1 18 ^^^ (x1 >>> 3) = q2 at *
          generalize rotr x1 7 ^^^ rotr x1 18 = q1 at *
          generalize rotr x2 17 ^^^ rotr x2 19 ^^^ (x2 >>> 10) = q4 at *
          generalize rotr x2 17 ^^^ rotr x2 19 = q3 at *
          generalize x1 >>> 3 = h3 at *
          generalize x2 >>> 10 = h10 at *
          generalize rotr x1 7 = r7 at *
          generalize rotr x1 18 = r18 at *
          generalize rotr x2 17 = r17 at *
          generalize rotr x2 19 = r19 at *
          have HROW : Hid (wr.heap[w.heap.size + 1 + 1]? = some (.cells (wcells (L ++ List.replicate (m - j) 0)).toArray 69 (0, 0))) := hrow
          have HRES : Hid (wr.heap[w.heap.size + 1]? = some (.cells Z 69 (0, 0))) := hres
          clear hs1 hs3 hrow hres hL hLn hLL hx1 hx2 hx3 hx4 hi
          go_wp2_with fail
          go_region
          go_wp2_with fail
          go_region
          go_wp2_with fail
          have R3 : ((wr.setCell ⟨w.heap.size + 1 + 1, i, none⟩ (.int .u32 s1.toNat)).drew.drew).heap[w.heap.size + 1 + 1]? = some (.cells (wcells ((L ++ List.replicate (m - j) 0).set (i) s1)).toArray 69 (0, 0)) := wrow_set HROW.out s1
          have Q3 : Hid (((wr.setCell ⟨w.heap.size + 1 + 1, i, none⟩ (.int .u32 s1.toNat)).drew.drew).heap[w.heap.size + 1]? = some (.cells Z 69 (0, 0))) := by
            show _ = _
            exact (Below.heap_setCell wr ⟨w.heap.size + 1 + 1, i, none⟩ (.int .u32 s1.toNat) (w.heap.size + 1) (by simp)).trans HRES.out
          have S3 : Same w ((wr.setCell ⟨w.heap.size + 1 + 1, i, none⟩ (.int .u32 s1.toNat)).drew.drew) := ((hst.setCell (p := ⟨w.heap.size + 1 + 1, i, none⟩) (fun h => by simp only at h; omega) _).drew).drew
          generalize (wr.setCell ⟨w.heap.size + 1 + 1, i, none⟩ (.int .u32 s1.toNat)).drew.drew = W3 at *
          have hmj : 0 < m - j := by omega
          have hi' := HI.out
          have hLi : L.length = i := HLL.out.2.trans HI.out.symm
          have k5 : W3.cell? ⟨w.heap.size + 1 + 1, i, none⟩ = some (.int .u32 s1.toNat) := by
            rw [wrow_cell R3 (by simp [hLi]; omega)]
            simp [hLi, hmj]
          have kf := frozen_of_row W3 (w.heap.size + 1 + 1) (i) _ _ R3
          clear c1 c2 c3 c4 c5 hfx HROW HRES hst hLi hmj hi'
          have HR3 : Hid (W3.heap[w.heap.size + 1 + 1]? = some (.cells (wcells ((L ++ List.replicate (m - j) 0).set i s1)).toArray 69 (0, 0))) := R3
          clear R3
          apply wp_one (W := (W3.setCell ⟨w.heap.size + 1 + 1, i, none⟩ (.int .u32 s2.toNat)).drew)
          · go_region_with (first | (go_at_call 37; first | (refine (T7.out _).mono ?_; rintro e W4 ⟨rfl, rfl⟩) | (refine (T18.out _).mono ?_; rintro e W4 ⟨rfl, rfl⟩)))
            all_goals exact ⟨rfl, rfl⟩
          have hmj : 0 < m - j := by omega
          have hi' := HI.out
          have hLi : L.length = i := HLL.out.2.trans HI.out.symm
          have R5 : ((W3.setCell ⟨w.heap.size + 1 + 1, i, none⟩ (.int .u32 s2.toNat)).drew).heap[w.heap.size + 1 + 1]? = some (.cells (wcells ((L ++ List.replicate (m - j) 0).set i s2)).toArray 69 (0, 0)) := by
            have := wrow_set (k := i) HR3.out s2
            rw [List.set_set] at this
            exact this
          have Q5 : Hid (((W3.setCell ⟨w.heap.size + 1 + 1, i, none⟩ (.int .u32 s2.toNat)).drew).heap[w.heap.size + 1]? = some (.cells Z 69 (0, 0))) := (Below.heap_setCell W3 ⟨w.heap.size + 1 + 1, i, none⟩ (.int .u32 s2.toNat) (w.heap.size + 1) (by simp)).trans Q3.out
          have S5 : Same w ((W3.setCell ⟨w.heap.size + 1 + 1, i, none⟩ (.int .u32 s2.toNat)).drew) := (S3.setCell (p := ⟨w.heap.size + 1 + 1, i, none⟩) (fun h => by simp only at h; omega) _).drew
          clear k5 kf HR3 Q3 S3 T7 T18
          generalize (W3.setCell ⟨w.heap.size + 1 + 1, i, none⟩ (.int .u32 s2.toNat)).drew = W5 at *
          have k5 : W5.cell? ⟨w.heap.size + 1 + 1, i, none⟩ = some (.int .u32 s2.toNat) := by
            rw [wrow_cell R5 (by simp [hLi]; omega)]
            simp [hLi, hmj]
          have kf := frozen_of_row W5 (w.heap.size + 1 + 1) i _ _ R5
          have HR5 : Hid (W5.heap[w.heap.size + 1 + 1]? = some (.cells (wcells ((L ++ List.replicate (m - j) 0).set i s2)).toArray 69 (0, 0))) := R5
          clear R5 hLi hmj hi'
          go_wp2_with fail
          apply wp_one (W := (W5.setCell ⟨w.heap.size + 1 + 1, i, none⟩ (.int .u32 s3.toNat)).drew)
          · go_region_with (first | (go_at_call 37; first | (refine (T17.out _).mono ?_; rintro e W4 ⟨rfl, rfl⟩) | (refine (T19.out _).mono ?_; rintro e W4 ⟨rfl, rfl⟩)))
            all_goals exact ⟨rfl, rfl⟩
          clear k5 kf
          go_wp2_with fail
          have hi' := HI.out
          have hLi : L.length = i := HLL.out.2.trans HI.out.symm
          have hex : extW (j + 1) l16 ++ List.replicate (m - (j + 1)) 0 = (L ++ List.replicate (m - j) 0).set i s3 := by
            rw [extW_succ, ← HLL.out.1, ← HS.out, List.set_append_right _ _ (by omega), hLi, Nat.sub_self, show m - j = (m - (j + 1)) + 1 from by omega, List.replicate_succ]
            simp
          go_roundg (m - (j + 1))
          case measure => omega
          case rel =>
            refine ⟨j + 1, by rw [hi']; go_num, by omega, rfl, ?_, ?_, ?_⟩
            · have := wrow_set (k := i) HR5.out s3
              rw [List.set_set, ← hex] at this
              exact this
            · exact (Below.heap_setCell W5 ⟨w.heap.size + 1 + 1, i, none⟩ (.int .u32 s3.toNat) (w.heap.size + 1) (by simp)).trans Q5.out
            · exact (S5.setCell (p := ⟨w.heap.size + 1 + 1, i, none⟩) (fun h => by simp only at h; omega) _).drew
        · have hjm : j = m := by omega
          have hRR := HR.out j (hjm.trans HM.out)
          rw [show m - j = 0 from by omega, List.replicate_zero, List.append_nil, ← hRR] at hrow
          have hRs := HRs.out
          have hRsz' := hRsz.out
          have hRone' := hRone.out
          have hth : wr.there (w.heap.size + 1) 0 R.size := there_row hres (by rw [hRs, hZ])
          have R1 : (wr.setCells (w.heap.size + 1) 0 R.toList).heap[w.heap.size + 1]? = some (.cells R 69 (0, 0)) := by
            have := setCells_whole R.toList Z hres (by rw [Array.length_toList, hRs, hZ]) (by rw [Array.length_toList]; exact hth)
            rwa [Array.toArray_toList] at this
          have R2 : Same w (wr.setCells (w.heap.size + 1) 0 R.toList) := Fr.setCells (fun h => by omega) _ 0 wr hst
          have HRES : Hid (∀ tmps : Array Value, tmps.getD 2 undef = .pointer (some ⟨w.heap.size + 1, 0, none⟩) → (results Tryd.f36 tmps).run Tryd.prog (wr.setCells (w.heap.size + 1) 0 R.toList) = .ok (.agg R) (wr.setCells (w.heap.size + 1) 0 R.toList)) := fun tmps hp => results_cell_row (p := 2) (ty := 69) (by kernel_rfl) tmps _ (w.heap.size + 1) 69 _ (0, 0) _ hp R1 Tryd.underlying69 rfl hRsz'
          have HJ : Hid (j = m) := hjm
          have hj48 : 48 ≤ j := by omega
          clear R1 hres hst hRs hRR hjm
          go_wp2_with (first | (refine wpList_load_row (by rfl) 69 _ (by rfl) (w.heap.size + 1 + 1) (by rfl) 69 R (0, 0) _ hrow Tryd.underlying69 rfl hRsz' ?_) | (refine wpList_store_mid (by rfl) 69 _ _ (by rfl) (w.heap.size + 1) 0 R (by rfl) (by rfl) hth hRsz' hRone' ?_))
          exact bodyPost_ret (HRES.out _ rfl) rfl ⟨rfl, R2⟩
end Go.Proofs.YtnoicjpmfchhiaaDoor
