/- Picked: ND, X0. -/
import Derived.Test.YteddbkbfnafbpaaK4
import Derived.Test.YteddbkbfnafbpaaKL
import Derived.WalkKit
import Derived.WalkSpells
import Derived.WalkLawsBesides
import Derived.Deep.AppendLies
import Derived.Lib.AppendStr
import Derived.Laws.IdiomStrings
import Derived.Test.YteddbkbfnafbpaaProg
import Derived.Deep.LoopGhost
import Derived.Laws.Rows
import Derived.Deep.MidRow
import Derived.Deep.DeepMust
import Derived.Handy
import Derived.Laws.BitsAllLaws
import Derived.Deep.RegionLaw
import Derived.Deep.DrawnRows
import Derived.Lib.Strings
import Derived.Deep.QuietTactic
import Derived.BigQuiet
import Derived.Laws.ResultCell
import Derived.Laws.CopyOwn
import Derived.ChangeKeysEq
import Derived.BigFrame
import Derived.Deep.RegionHeld3
import Derived.Laws.DeepNot64
import Derived.Lib.LazyBuf
import Derived.Deep.OwnRows
import Derived.Test.YteddbkbfnafbpaaRows
import Derived.ProofKit
import Derived.OpenShut
import Derived.SliceStrings
import Derived.JoinedCond
import Derived.Deep.Slices
import Derived.RegionTactic
import Derived.Deep.RegionWith
import Derived.Laws.Concat
namespace Go.Proofs.Yteddbkbfnafbpaa
open Go.RowKit

theorem Fr.frozen {S : Nat → Prop} {w w' : World} (h : Fr S w w') {p : Addr} (hp : p.block < w.heap.size) (hn : ¬ S p.block) : w'.frozen? p = w.frozen? p := World.frozen?_of_block (w := w) (h.block p.block hp hn)

theorem cell_of_two {w : World} {b : Nat} {x y : Value} {t : TypeId} (h : w.heap[b]? = some (.cells #[x, y] t (0, 0))) :
    w.cell? ⟨b, 0, none⟩ = some x ∧ w.cell? ⟨b, 1, none⟩ = some y ∧ w.frozen? ⟨b, 0, none⟩ = false ∧ w.frozen? ⟨b, 1, none⟩ = false := by
  refine ⟨?_, ?_, ?_, ?_⟩ <;> simp [World.cell?, World.frozen?, h]

theorem two_setCell {w : World} {b : Nat} {x y : Value} {t : TypeId} (h : w.heap[b]? = some (.cells #[x, y] t (0, 0))) (v : Value) :
    (w.setCell ⟨b, 1, none⟩ v).heap[b]? = some (.cells #[x, v] t (0, 0)) := by
  simp [World.setCell, Array.getElem?_modify, h]

/-- The bytes bs lie in the row that a slice value owns (whatever block). -/
abbrev Owns (w : World) (v : Value) (bs : List UInt8) : Prop := w.ownsRow 0 5 1 v bs.length (bcells bs)

theorem own_form {e : TypeId} {w : World} {v : Value} {n : Nat} {xs : List Value} (h : w.ownsRow 0 e 1 v n xs) : ∃ ao c, v = .slice ao n c ∧ v.ownBlock = ao.map (·.block) := by
  rcases h.2 with ⟨hv, h0⟩ | ⟨g, cap, cur, hv, _⟩
  · exact ⟨none, 0, by rw [hv, h0], by rw [hv]; rfl⟩
  · exact ⟨some ⟨g, 0, none⟩, cap, hv, by rw [hv]; rfl⟩

/-- A row's block is no block of another element type. -/
theorem own_ne {e : TypeId} {w : World} {v : Value} {n : Nat} {xs : List Value} (h : w.ownsRow 0 e 1 v n xs) {b : Nat} {cs : Array Value} {t : TypeId} {fr : Nat × Nat} (hb : w.heap[b]? = some (.cells cs t fr)) (ht : t ≠ e) : v.ownBlock ≠ some b := by
  rcases h.2 with ⟨hv, _⟩ | ⟨g, cap, cur, hv, _, hg, _⟩
  · rw [hv]; simp [Value.ownBlock]
  · rw [hv]; intro e
    have : g = b := by simpa [Value.ownBlock] using e
    subst this; rw [hg] at hb; simp at hb; exact ht hb.2.1.symm

theorem own_lt {e : TypeId} {w : World} {v : Value} {n : Nat} {xs : List Value} (h : w.ownsRow 0 e 1 v n xs) {k : Nat} (hk : v.ownBlock = some k) : k < w.heap.size := (h.lt k hk).2

theorem own_setCell {e : TypeId} {w : World} {v : Value} {n : Nat} {xs : List Value} (h : w.ownsRow 0 e 1 v n xs) {p : Addr} (hp : v.ownBlock ≠ some p.block) (u : Value) : (w.setCell p u).ownsRow 0 e 1 v n xs := by
  obtain ⟨h1, h2⟩ := h
  refine ⟨h1, ?_⟩
  rcases h2 with h2 | ⟨g, cap, cur, hv, hg, hh, r⟩
  · exact Or.inl h2
  · refine Or.inr ⟨g, cap, cur, hv, hg, ?_, r⟩
    rw [Below.heap_setCell _ _ _ _ (by intro e; apply hp; rw [hv, e]; rfl)]; exact hh

theorem own_frame {e : TypeId} {w w' : World} {v : Value} {n : Nat} {xs : List Value} {S : Nat → Prop} (h : w.ownsRow 0 e 1 v n xs) (hf : Fr S w w') (hn : ∀ k, v.ownBlock = some k → ¬ S k) : w'.ownsRow 0 e 1 v n xs := by
  obtain ⟨h1, h2⟩ := h
  refine ⟨h1, ?_⟩
  rcases h2 with h2 | ⟨g, cap, cur, hv, hg, hh, r⟩
  · exact Or.inl h2
  · exact Or.inr ⟨g, cap, cur, hv, hg, by rw [hf.block g (lt_of_heap hh) (hn g (by rw [hv]; rfl))]; exact hh, r⟩

/-- From w to w' the Writer at b (its row at g, then at g') alone may have turned. -/
def WrStep (b : Nat) (g g' : Option Nat) (w w' : World) : Prop := Fr (fun k => k = b ∨ some k = g) w w' ∧ (∀ k, g' = some k → g = some k ∨ w.heap.size ≤ k)
theorem WrStep.refl (b : Nat) (g : Option Nat) (w : World) : WrStep b g g w w := ⟨Fr.refl _ _, fun _ h => Or.inl h⟩
theorem WrStep.trans {b : Nat} {g g1 g2 : Option Nat} {w w1 w2 : World} (h : WrStep b g g1 w w1) (k : WrStep b g1 g2 w1 w2) : WrStep b g g2 w w2 := by
  refine ⟨h.1.trans k.1 ?_, ?_⟩
  · rintro i hi (rfl | e)
    · exact Or.inl rfl
    · rcases h.2 i e.symm with h' | h'
      · exact Or.inr h'.symm
      · omega
  · intro i hi
    rcases k.2 i hi with h' | h'
    · exact h.2 i h'
    · right; exact Nat.le_trans h.1.size h'

/-- A string appended to a row: where the new slice lies. -/
theorem run_append_str_at {P : Program} (w : World) (t u ty e : TypeId) (i : TypeInfo) (ht : P.underlying t = some (.slice e)) (hu : P.underlying u = some .string) (hi : P.info? e = some i) (hz : i.zero = some (.int .u8 0))
    (hsize : i.size = 1) (hby : i.bytes = 1) (v : Value) (n : Nat) (xs : List Value) (hown : w.ownsRow 0 e 1 v n xs) (s : ByteArray) (hb : n + s.size ≤ 140737488355328) :
    ∃ v' w', (Builtin.append_ #[t, u] ty #[v, .string s]).run P w = .ok v' w' ∧ w'.ownsRow 0 e 1 v' (n + s.size) (xs ++ Lib.strCells s) ∧ w.grownBy w' v.ownBlock ∧ (∀ k, v'.ownBlock = some k → v.ownBlock = some k ∨ w.heap.size ≤ k) := by
  obtain ⟨v', w', hr, ho, hg, _⟩ := Lib.run_append_own_string (P := P) w 0 t u ty e i ht hu hi hz hsize hby v n xs hown s (by unfold maxLen; omega) hb (Nat.zero_le _)
  refine ⟨v', w', hr, ho, hg, ?_⟩
  have hxl : xs.length = n := by simpa using hown.1
  rcases hown.2 with ⟨rfl, rfl⟩ | ⟨g, cap, cur, rfl, _, hgb, hnc, hcm, hcs, htake⟩
  · have hx : xs = [] := List.eq_nil_of_length_eq_zero hxl
    subst hx
    obtain ⟨v2, w2, hr2, ho2, _, _⟩ := Lib.run_append_own_string (P := P) w w.heap.size t u ty e i ht hu hi hz hsize hby _ 0 [] (World.ownsRow_nil w w.heap.size e 1) s (by unfold maxLen; omega) hb (Nat.le_refl _)
    rw [hr] at hr2
    injection hr2 with e1 e2
    subst e1
    intro k hk
    exact Or.inr (ho2.lt k hk).1
  · by_cases hroom : n + s.size ≤ cap
    · have hcs' : cur.size = cap := by simpa using hcs
      have hr2 := Lib.run_append_room_string (P := P) w t u ty e i ht hu hi hsize g n cap cur hgb s hroom (by omega)
      rw [hr] at hr2
      injection hr2 with e1 e2
      subst e1
      intro k hk
      exact Or.inl hk
    · have holds : ∀ j u, xs[j]? = some u → w.cell? ((⟨g, 0, none⟩ : Addr).add j) = some u := hown.cells (g := g) rfl
      have hr2 := Lib.run_append_grow_string (P := P) w t u ty e i (.int .u8 0) ht hu hi hz ⟨g, 0, none⟩ n cap xs (by rw [hsize]; simpa using hxl) holds s (by omega) (by omega) (by rw [hby]; exact growslice_fits (by omega) (by omega))
      rw [hr] at hr2
      injection hr2 with e1 e2
      subst e1
      intro k hk
      right
      have : w.heap.size = k := by simpa [Value.ownBlock] using hk
      omega

theorem wpList_append_str {P : Program} (w : World) {ops : Array Oper} {rest : List Oper} {o : Oper} {a : Act} {Q : Exit → Act → World → Prop} (hgd : o.guard = none) (sl x : Operand) (t u : TypeId)
    (ho : o.op = .call { callee := .builtin .append, args := #[sl, x], argTypes := #[t, u] }) (e : TypeId) (i : TypeInfo) (ht : P.underlying t = some (.slice e)) (hu : P.underlying u = some .string) (hi : P.info? e = some i) (hz : i.zero = some (.int .u8 0))
    (hsize : i.size = 1) (hby : i.bytes = 1) (v : Value) (n : Nat) (xs : List Value) (hs : a.eval sl = v) (hown : w.ownsRow 0 e 1 v n xs) (s : ByteArray) (hx : a.eval x = .string s) (hb : n + s.size ≤ 140737488355328)
    (h : ∀ ao c w', w'.ownsRow 0 e 1 (.slice ao (n + s.size) c) (n + s.size) (xs ++ Lib.strCells s) → w.grownBy w' v.ownBlock → (∀ k, (Value.slice ao (n + s.size) c).ownBlock = some k → v.ownBlock = some k ∨ w.heap.size ≤ k) → wpList P ops Q rest (a.put o.dst (.slice ao (n + s.size) c)) w') : wpList P ops Q (o :: rest) a w := by
  refine wpList_plain hgd fun K hK => ?_
  obtain ⟨v', w', hr, h2, h3, h4⟩ := run_append_str_at (P := P) w t u o.type e i ht hu hi hz hsize hby v n xs hown s hb
  have hf : ∃ ao c, v' = .slice ao (n + s.size) c := by
    rcases h2.2 with ⟨hv, h0⟩ | ⟨g, cap, cur, hv, _⟩
    · exact ⟨none, 0, by rw [hv, h0]⟩
    · exact ⟨some ⟨g, 0, none⟩, cap, hv⟩
  obtain ⟨ao, c, rfl⟩ := hf
  unfold Oper.wp execOp
  simp only [ho, resolve, invoke, builtin, Sem.run_bind, Sem.run_pure, Result.andThen_ok, List.map_toArray, List.map_cons, List.map_nil, hs, hx, hr]
  exact hK _ _ (h ao c w' h2 h3 h4)

/-- Texts, one behind the other. -/
def flat (ss : List ByteArray) : List UInt8 := (ss.map fun s => s.data.toList).flatten
theorem flat_append (a b : List ByteArray) : flat (a ++ b) = flat a ++ flat b := by simp [flat]
theorem flat_take_succ (ss : List ByteArray) (k : Nat) (h : k < ss.length) : flat (ss.take (k + 1)) = flat (ss.take k) ++ ss[k].data.toList := by
  rw [List.take_succ_eq_append_getElem h, flat_append]; simp [flat]
theorem flat_take_le (ss : List ByteArray) (k : Nat) : (flat (ss.take k)).length ≤ (flat ss).length := by
  have : (flat ss).length = (flat (ss.take k)).length + (flat (ss.drop k)).length := by
    rw [← List.length_append, ← flat_append, List.take_append_drop]
  omega
theorem strCells_eq (s : ByteArray) : Lib.strCells s = bcells s.data.toList := rfl

/-- 'string(b)' of a row that is owned. -/
theorem owns_string {P : Program} {w : World} {v : Value} {bs : List UInt8} (h : Owns w v bs) (src dst : TypeId) (hs : P.underlying src = some (.slice 5)) (he : P.underlying 5 = some (.int .u8)) (hd : P.underlying dst = some .string) :
    (convert src dst v).run P w = .ok (.string ⟨bs.toArray⟩) w := by
  rcases h.2 with ⟨hv, h0⟩ | ⟨g, cap, cur, hv, _, hg, hnc, hcm, hcs, htake⟩
  · have : bs = [] := List.eq_nil_of_length_eq_zero h0
    subst this; subst hv
    rw [run_convert_bytes_string w src dst 5 none 0 0 hs he hd]
    simp [Conv.bytesToString]
    rfl
  · subst hv
    refine run_convert_bytes_back w src dst 5 ⟨g, 0, none⟩ cap bs hs he hd ?_
    intro j hj
    refine h.cells (g := g) rfl j _ ?_
    simp [bcells, hj]


def freeF : Nat → Nat → List UInt8
  | 0, n => [UInt8.ofNat n]
  | k + 1, n => if n < 128 then [UInt8.ofNat n] else UInt8.ofNat (n % 128 + 128) :: freeF k (n / 128)
def freeB (n : Nat) : List UInt8 := freeF 9 n

theorem and127 (m : Nat) (h : m < 18446744073709551616) : bits .and .u64 (m : Int) 127 = (m : Int) % 128 := by
  have := u64_and_nat m 127 h (by decide)
  rw [show ((127 : Nat) : Int) = 127 from rfl] at this
  rw [this, show (127 : Nat) = 2 ^ 7 - 1 from rfl, Nat.and_two_pow_sub_one_eq_mod]
  omega
theorem Try.info5 : (Try.prog.info? 5).map (fun i => (i.zero, i.size, i.bytes)) = some (some (.int .u8 0), 1, 1) := by kernel_rfl

def textB (s : ByteArray) : List UInt8 := freeB s.size ++ s.data.toList

theorem freeF_length (k n : Nat) : (freeF k n).length ≤ k + 1 := by
  induction k generalizing n with
  | zero => simp [freeF]
  | succ k ih => rw [freeF]; split
                 · simp
                 · have := ih (n / 128); simp; omega
theorem freeB_length (n : Nat) : (freeB n).length ≤ 10 := freeF_length 9 n


def fixB : Nat → Int → List UInt8
  | 0, _ => []
  | n + 1, x => UInt8.ofNat ((x / 256 ^ n) % 256).toNat :: fixB n x
theorem fixB_length (n : Nat) (x : Int) : (fixB n x).length = n := by induction n <;> simp [fixB, *]

theorem shr_fix (kd : IntKind) (x : Int) (k : Nat) (h : 8 * k ≤ kd.bits) : Op.shift .shr kd x .i64 (IntKind.i64.wrap (8 * (k : Int))) = pure (.int kd (x / 256 ^ k)) := by
  have hk : kd.bits ≤ 64 := by cases kd <;> simp [IntKind.bits]
  have e : IntKind.i64.wrap (8 * (k : Int)) = ((8 * k : Nat) : Int) := by rw [IntKind.wrap_i64]; omega
  rw [e, shift_shr kd .i64 x _ (by omega) (by omega)]
  rw [Int.toNat_natCast, show (2 : Int) ^ (8 * k) = 256 ^ k from by rw [Int.pow_mul]; rfl]

theorem u8_of (y : Int) : IntKind.u8.wrap y = ((UInt8.ofNat (y % 256).toNat).toNat : Int) := by
  rw [IntKind.wrap_u8]; simp; omega

theorem u8_same {x y : Int} {k : Nat} (h0 : 0 ≤ x) (h1 : x ≤ 255) (h : y = x / 256 ^ k) : y = ((UInt8.ofNat (y % 256).toNat).toNat : Int) := by
  have a : 0 ≤ y := by rw [h]; exact Int.ediv_nonneg h0 (Int.pow_nonneg (by decide))
  have b : y ≤ x := by rw [h]; exact Int.ediv_le_self _ h0
  simp; omega

attribute [local go_sem ↓] Go.wp_at_zero Go.wp_at_succ

theorem WrStep.same {b : Nat} {g g' : Option Nat} {w w1 w2 : World} (h : Fr (fun _ => False) w w1) (k : WrStep b g g' w1 w2) : WrStep b g g' w w2 :=
  ⟨Fr.trans (h.mono (fun _ _ f => f.elim)) k.1 (fun _ _ t => t), fun i hi => by rcases k.2 i hi with h' | h'; exact Or.inl h'; exact Or.inr (Nat.le_trans h.size h')⟩
theorem ret_int {k : IntKind} {a b : Int} (h : a = b) : Ending.returned (.int k a) = .returned (.int k b) := by rw [h]
/-- A width brought into 0 to 32. -/
def widthN (wd : Int) : Nat := (min (max wd 0) 32).toNat
theorem widthN_le (wd : Int) : widthN wd ≤ 32 := by unfold widthN; omega

theorem Try.alen : Try.prog.arrayLen 44 = 32 := by kernel_rfl
theorem Try.aelem : Try.prog.elem 44 = 5 := by kernel_rfl
theorem Try.aund : Try.prog.underlying 44 = some (.array (Try.prog.arrayLen 44) (Try.prog.elem 44)) := by kernel_rfl
theorem Try.size8 (W : World) : (sizeOf 5).run Try.prog W = .ok 1 W := by kernel_rfl
theorem slice_digest (W : World) (g k : Nat) (hk : k ≤ 32) : (Instr.sliceAt 44 (.pointer (some ⟨g, 0, none⟩)) none (some (.int .i64 (k : Int))) none).run Try.prog W = .ok (.slice (some ⟨g, 0, none⟩) k 32) W := by
  rw [run_sliceAt_array_h W 44 ⟨g, 0, none⟩ Try.aund .i64 k (by omega) (by rw [Try.alen]; omega), Try.aelem, Try.size8, Try.alen]
  simp [slicedAt, Addr.add]

def pairB (x : ByteArray × ByteArray) : List UInt8 := textB x.1 ++ textB x.2
def pairsB (ps : List (ByteArray × ByteArray)) : List UInt8 := ps.flatMap pairB
theorem pairsB_take_succ (ps : List (ByteArray × ByteArray)) (k : Nat) (x : ByteArray × ByteArray) (h : ps[k]? = some x) : pairsB (ps.take (k + 1)) = pairsB (ps.take k) ++ pairB x := by
  rw [List.take_add_one, h]
  simp [pairsB]
theorem pairsB_take_le (ps : List (ByteArray × ByteArray)) (k : Nat) : (pairsB (ps.take k)).length ≤ (pairsB ps).length := by
  have : pairsB ps = pairsB (ps.take k) ++ pairsB (ps.drop k) := by
    unfold pairsB
    rw [← List.flatMap_append, List.take_append_drop]
  rw [this, List.length_append]; omega
theorem textB_len (s : ByteArray) : s.size ≤ (textB s).length := by unfold textB; rw [List.length_append, bytes_length]; omega

theorem WrStep.alloc (b : Nat) (g : Option Nat) (w : World) (o : Obj) : WrStep b g g w (w.alloc o) := ⟨(Fr.refl _ w).alloc _, fun _ h => Or.inl h⟩
/-- A block that is neither the Writer's nor its bytes' is as it was. -/
theorem WrStep.keep {b : Nat} {g g' : Option Nat} {w w' : World} (st : WrStep b g g' w w') {k : Nat} {o : Obj} (hk : w.heap[k]? = some o) (h1 : k ≠ b) (h2 : some k ≠ g) : w'.heap[k]? = some o :=
  (st.1.block k (lt_of_heap hk) (by rintro (e | e); exact h1 e; exact h2 e)).trans hk
theorem Try.infoKid2 {k : Kid} (h : KidOk k) : (Try.prog.info? 46).map (·.size) = some (kcells k).toArray.size := by rw [Try.infoKid, List.size_toArray, kcells_length h.d]
/-- A kid's bytes: its digest cut to the width; ahead of it the page, if the form has pages. -/
def sumB (q : Int) (k : Kid) : List UInt8 := k.d.take (widthN q)
def kidB (pages : Bool) (q : Int) (k : Kid) : List UInt8 := (if pages = true then fixB 4 k.page else []) ++ sumB q k

def kidsB (pages : Bool) (q : Int) : Bool → List ByteArray → List Kid → List UInt8
  | _, _, [] => []
  | true, ss, k :: ks => kidB pages q k ++ kidsB pages q false ss ks
  | false, [], k :: ks => kidB pages q k ++ kidsB pages q false [] ks
  | false, s :: ss, k :: ks => textB s ++ kidB pages q k ++ kidsB pages q false ss ks
theorem zeroKid_lit : (#[.int .u32 0, .int .u8 0, .int .u8 0, .int .u8 0, .int .u8 0, .int .u8 0, .int .u8 0, .int .u8 0, .int .u8 0, .int .u8 0, .int .u8 0, .int .u8 0, .int .u8 0, .int .u8 0, .int .u8 0, .int .u8 0, .int .u8 0, .int .u8 0, .int .u8 0, .int .u8 0, .int .u8 0, .int .u8 0, .int .u8 0, .int .u8 0, .int .u8 0, .int .u8 0, .int .u8 0, .int .u8 0, .int .u8 0, .int .u8 0, .int .u8 0, .int .u8 0, .int .u8 0] : Array Value) = (kcells zeroKid).toArray := rfl
theorem kcells_one (k : Kid) : (kcells k).toArray.all (·.oneCell') = true := all_oneCell_toArray (by
  intro x hx
  simp only [kcells, List.mem_cons, bcells, List.mem_map] at hx
  rcases hx with rfl | ⟨b, _, rfl⟩ <;> rfl)
/-- What is still to be laid. -/
def restB (pages : Bool) (q : Int) (ss : List ByteArray) (ks : List Kid) (k : Nat) : List UInt8 := kidsB pages q (decide (k = 0)) (ss.drop (k - 1)) (ks.drop k)
theorem restB_zero (pages : Bool) (q : Int) (ss : List ByteArray) (ks : List Kid) : restB pages q ss ks 0 = kidsB pages q true ss ks := rfl
theorem restB_first {pages : Bool} {q : Int} {ss : List ByteArray} {ks : List Kid} {x : Kid} (hx : ks[0]? = some x) : restB pages q ss ks 0 = kidB pages q x ++ restB pages q ss ks 1 := by
  cases ks with
  | nil => simp at hx
  | cons y ks => simp at hx; subst hx; rfl
theorem restB_next {pages : Bool} {q : Int} {ss : List ByteArray} {ks : List Kid} {x : Kid} {s : ByteArray} {k : Nat} (hx : ks[k + 1]? = some x) (hs : ss[k]? = some s) : restB pages q ss ks (k + 1) = textB s ++ kidB pages q x ++ restB pages q ss ks (k + 2) := by
  have hl := (List.getElem?_eq_some_iff.1 hx).1
  have hl2 := (List.getElem?_eq_some_iff.1 hs).1
  have e1 : ks.drop (k + 1) = x :: ks.drop (k + 2) := by
    have e : ks[k + 1] = x := by rw [List.getElem?_eq_getElem hl] at hx; exact Option.some.inj hx
    rw [List.drop_eq_getElem_cons hl, e]
  have e2 : ss.drop k = s :: ss.drop (k + 1) := by
    have e : ss[k] = s := by rw [List.getElem?_eq_getElem hl2] at hs; exact Option.some.inj hs
    rw [List.drop_eq_getElem_cons hl2, e]
  unfold restB
  rw [show k + 1 - 1 = k from rfl, show k + 2 - 1 = k + 1 from rfl, e1, e2]
  rfl
theorem restB_len {pages : Bool} {q : Int} {ss : List ByteArray} {ks : List Kid} {k : Nat} (h : ks.length ≤ k) : restB pages q ss ks k = [] := by
  unfold restB
  rw [List.drop_of_length_le h]
  cases (decide (k = 0)) <;> cases (ss.drop (k - 1)) <;> rfl


/-- A node's bytes. -/
def formN (pages : Bool) (q : Int) (N : Nd) : List UInt8 := if leafB N = true then 1 :: (freeB N.ps.length ++ pairsB N.ps) else 2 :: (freeB N.ks.length ++ kidsB pages q true N.ss N.ks)
theorem kidsB_many {pages : Bool} {q : Int} (ss : List ByteArray) (ks : List Kid) (h : ss.length + 1 = ks.length) : ks.length ≤ (kidsB pages q true ss ks).length + 1 := by
  have hf : ∀ (ss : List ByteArray) (ks : List Kid), ss.length = ks.length → ks.length ≤ (kidsB pages q false ss ks).length := by
    intro ss
    induction ss with
    | nil => intro ks h; cases ks with
      | nil => simp
      | cons k ks => simp at h
    | cons s ss ih => intro ks h; cases ks with
      | nil => simp
      | cons k ks =>
        have h2 := ih ks (by simpa using h)
        have h1 : 1 ≤ (textB s).length := by
          unfold textB
          have : 1 ≤ (freeB s.size).length := by unfold freeB freeF; split <;> simp
          rw [List.length_append]; omega
        show (k :: ks).length ≤ (textB s ++ kidB pages q k ++ kidsB pages q false ss ks).length
        simp only [List.length_append, List.length_cons]
        omega
  cases ks with
  | nil => simp
  | cons k ks =>
    have := hf ss ks (by simpa using h)
    show (k :: ks).length ≤ (kidB pages q k ++ kidsB pages q false ss ks).length + 1
    rw [List.length_append, List.length_cons]; omega
structure NdCap (r : Nr) (N : Nd) : Prop where
  cs : N.ss.length ≤ r.cs
  cm : r.cs ≤ 9223372036854775807

theorem shape_sep {p q : Int} {N : Nd} (h : shapeP p q N = true) (hl : leafB N = false) : N.ss.length + 1 = N.ks.length := by
  unfold shapeP branchP at h
  rw [hl] at h
  simp only [Bool.false_eq_true, if_false, Bool.and_eq_true, Bool.not_eq_true', Bool.or_eq_false_iff, decide_eq_false_iff_not] at h
  omega
/-- What the calls answer. -/
def sizeV (p q : Int) (N : Nd) : Int := if chkN p q N = 0 then ((formN true q N).length : Int) else 0
theorem size_arr (l : List UInt8) : (ByteArray.mk l.toArray).size = l.length := by rw [← bytes_length, List.toList_toArray]
/-- A node that is small enough for all that is asked of it. -/
structure NdOk (w : World) (r : Nr) (q : Int) (N : Nd) : Prop where
  at_ : NdAt w r N
  cap : NdCap r N
  len1 : (formN true q N).length ≤ 50000000000
  len0 : (formN false q N).length ≤ 50000000000
theorem NdOk.same {w w' : World} {r : Nr} {q : Int} {N : Nd} (h : NdOk w r q N) (s : Same w w') : NdOk w' r q N := ⟨h.at_.same s, h.cap, h.len1, h.len0⟩
theorem one_str (W : World) (c : Nat) (hc : c < 256) : (convert 108 9 (.slice (some ⟨W.heap.size, 0, none⟩) 1 1)).run Try.prog (W.alloc (.cells #[.int .u8 c] 5)) = .ok (.string ⟨#[UInt8.ofNat c]⟩) (W.alloc (.cells #[.int .u8 c] 5)) := by
  have hown : Owns (W.alloc (.cells #[.int .u8 c] 5)) (.slice (some ⟨W.heap.size, 0, none⟩) 1 1) [UInt8.ofNat c] := by
    refine ⟨rfl, Or.inr ⟨W.heap.size, 1, #[.int .u8 c], rfl, Nat.zero_le _, heap_alloc_new W _, Nat.le_refl _, by decide, rfl, ?_⟩⟩
    simp [bcells]
    omega
  exact owns_string (P := Try.prog) hown 108 9 Try.underlying108 Try.underlying5 Try.underlying9

theorem one_strD (W : World) (c : Nat) (hc : c < 256) : (convert 108 9 (.slice (some ⟨W.heap.size, 0, none⟩) 1 1)).run Try.prog (W.alloc (.cells #[.int .u8 c] 5)).drew = .ok (.string ⟨#[UInt8.ofNat c]⟩) (W.alloc (.cells #[.int .u8 c] 5)).drew := by
  have hown : Owns (W.alloc (.cells #[.int .u8 c] 5)).drew (.slice (some ⟨W.heap.size, 0, none⟩) 1 1) [UInt8.ofNat c] := by
    refine ⟨rfl, Or.inr ⟨W.heap.size, 1, #[.int .u8 c], rfl, Nat.zero_le _, heap_alloc_new W _, Nat.le_refl _, by decide, rfl, ?_⟩⟩
    simp [bcells]
    omega
  exact owns_string (P := Try.prog) hown 108 9 Try.underlying108 Try.underlying5 Try.underlying9
theorem one_strA (W : World) (c : Nat) (hc : c < 256) : (convert 108 9 (.slice (some ⟨W.heap.size, 0, none⟩) 1 1)).run Try.prog (W.drew.alloc (.cells #[.int .u8 c] 5)) = .ok (.string ⟨#[UInt8.ofNat c]⟩) (W.drew.alloc (.cells #[.int .u8 c] 5)) := one_str W.drew c hc

theorem one_strS {W W4 : World} {c : Nat} (hc : c < 256) (s : Same (W.alloc (.cells #[.int .u8 c] 5)).drew W4) : (convert 108 9 (.slice (some ⟨W.heap.size, 0, none⟩) 1 1)).run Try.prog W4 = .ok (.string ⟨#[UInt8.ofNat c]⟩) W4 := by
  have hown : Owns (W.alloc (.cells #[.int .u8 c] 5)).drew (.slice (some ⟨W.heap.size, 0, none⟩) 1 1) [UInt8.ofNat c] := by
    refine ⟨rfl, Or.inr ⟨W.heap.size, 1, #[.int .u8 c], rfl, Nat.zero_le _, heap_alloc_new W _, Nat.le_refl _, by decide, rfl, ?_⟩⟩
    simp [bcells]
    omega
  exact owns_string (P := Try.prog) (own_frame hown s (fun _ _ f => f)) 108 9 Try.underlying108 Try.underlying5 Try.underlying9

end Go.Proofs.Yteddbkbfnafbpaa
