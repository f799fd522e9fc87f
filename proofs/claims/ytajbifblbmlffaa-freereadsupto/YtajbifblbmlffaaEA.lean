/- Picked: NW, NB, WA, GM, MH. -/
import Derived.WalkKit
import Derived.WalkSpells
import Derived.WalkLawsBesides
import Derived.Deep.AppendLies
import Derived.Lib.AppendStr
import Derived.Laws.IdiomStrings
import Derived.Test.YtajbifblbmlffaaProg
import Derived.Handy
import Derived.Laws.BitsAllLaws
import Derived.Deep.DeepMust
import Derived.Deep.RegionLaw
import Derived.Deep.DrawnRows
import Derived.Lib.Strings
import Derived.Deep.QuietTactic
import Derived.BigQuiet
import Derived.Deep.MidRow
import Derived.Laws.ResultCell
import Derived.Laws.CopyOwn
import Derived.Laws.Rows
import Derived.ChangeKeysEq
import Derived.BigFrame
import Derived.Laws.DeepNot64
import Derived.Lib.LazyBuf
import Derived.Deep.RegionHeld3
import Derived.Deep.LoopGhost
import Derived.Deep.OwnRows
import Derived.Test.YtajbifblbmlffaaChecked
import Derived.ProofKit
namespace Go.Proofs.Ytajbifblbmlffaa
open Go.RowKit


/-- Of the blocks that were there those of S alone may have turned; the streams are as they were. -/
structure Fr (S : Nat → Prop) (w w' : World) : Prop where
  os : w'.os = w.os
  tape : w'.tape = w.tape
  output : w'.output = w.output
  size : w.heap.size ≤ w'.heap.size
  block : ∀ k, k < w.heap.size → ¬ S k → w'.heap[k]? = w.heap[k]?

theorem Fr.refl (S : Nat → Prop) (w : World) : Fr S w w := ⟨rfl, rfl, rfl, Nat.le_refl _, fun _ _ _ => rfl⟩
theorem Fr.trans {S T : Nat → Prop} {a b c : World} (h : Fr S a b) (k : Fr T b c) (hT : ∀ i, i < a.heap.size → T i → S i) : Fr S a c :=
  ⟨k.os.trans h.os, k.tape.trans h.tape, k.output.trans h.output, Nat.le_trans h.size k.size, fun i hi hn => (k.block i (Nat.lt_of_lt_of_le hi h.size) (fun t => hn (hT i hi t))).trans (h.block i hi hn)⟩
theorem Fr.mono {S T : Nat → Prop} {a b : World} (h : Fr S a b) (hT : ∀ i, i < a.heap.size → S i → T i) : Fr T a b :=
  ⟨h.os, h.tape, h.output, h.size, fun i hi hn => h.block i hi (fun s => hn (hT i hi s))⟩
theorem Fr.drew {S : Nat → Prop} {a w : World} (h : Fr S a w) : Fr S a w.drew := ⟨h.os, h.tape, h.output, h.size, h.block⟩
theorem Fr.drewN {S : Nat → Prop} {a w : World} (h : Fr S a w) (n : Nat) : Fr S a (w.drewN n) := ⟨h.os, h.tape, h.output, h.size, h.block⟩
theorem Fr.alloc {S : Nat → Prop} {a w : World} (h : Fr S a w) (o : Obj) : Fr S a (w.alloc o) :=
  h.trans (T := S) ⟨rfl, rfl, rfl, by simp, fun k hk _ => Below.heap_alloc _ _ _ (by omega)⟩ (fun _ _ t => t)
theorem Fr.setCell {S : Nat → Prop} {a w : World} (h : Fr S a w) {p : Addr} (hp : p.block < a.heap.size → S p.block) (u : Value) : Fr S a (w.setCell p u) :=
  h.trans (T := fun k => k = p.block) ⟨rfl, rfl, rfl, by simp [World.setCell], fun k _ hn => Below.heap_setCell _ _ _ _ hn⟩ (fun i hi e => by subst e; exact hp hi)
theorem Fr.grown {S : Nat → Prop} {a w w' : World} {row : Option Nat} (h : Fr S a w) (hg : w.grownBy w' row) (hr : ∀ k, row = some k → k < a.heap.size → S k) : Fr S a w' :=
  h.trans (T := fun k => some k = row) ⟨hg.os, hg.tape, hg.output, hg.size, fun k hk hn => hg.block k hk (fun e => hn e)⟩ (fun i hi e => hr i e.symm hi)
theorem Fr.cell {S : Nat → Prop} {w w' : World} (h : Fr S w w') {p : Addr} (hp : p.block < w.heap.size) (hn : ¬ S p.block) : w'.cell? p = w.cell? p := World.cell?_of_block (w := w) (h.block p.block hp hn)
theorem Fr.frozen {S : Nat → Prop} {w w' : World} (h : Fr S w w') {p : Addr} (hp : p.block < w.heap.size) (hn : ¬ S p.block) : w'.frozen? p = w.frozen? p := World.frozen?_of_block (w := w) (h.block p.block hp hn)
theorem lt_of_heap {w : World} {b : Nat} {o : Obj} (h : w.heap[b]? = some o) : b < w.heap.size := by
  rcases Nat.lt_or_ge b w.heap.size with hlt | hge
  · exact hlt
  · rw [Array.getElem?_eq_none hge] at h; cases h

/-- Nothing that was there has turned. -/
abbrev Same (w w' : World) : Prop := Fr (fun _ => False) w w'
theorem Same.trans {w w1 w2 : World} (h : Same w w1) (k : Same w1 w2) : Same w w2 := Fr.trans h k (fun _ _ f => f)
theorem Same.keep {w w' : World} (h : Same w w') {a : Addr} {v : Value} (hc : w.cell? a = some v) : w'.cell? a = some v := (h.cell (World.block_lt_of_cell? _ _ hc) (fun f => f)).trans hc


theorem cell_of_two {w : World} {b : Nat} {x y : Value} {t : TypeId} (h : w.heap[b]? = some (.cells #[x, y] t (0, 0))) :
    w.cell? ⟨b, 0, none⟩ = some x ∧ w.cell? ⟨b, 1, none⟩ = some y ∧ w.frozen? ⟨b, 0, none⟩ = false ∧ w.frozen? ⟨b, 1, none⟩ = false := by
  refine ⟨?_, ?_, ?_, ?_⟩ <;> simp [World.cell?, World.frozen?, h]

theorem two_setCell {w : World} {b : Nat} {x y : Value} {t : TypeId} (h : w.heap[b]? = some (.cells #[x, y] t (0, 0))) (v : Value) :
    (w.setCell ⟨b, 1, none⟩ v).heap[b]? = some (.cells #[x, v] t (0, 0)) := by
  simp [World.setCell, Array.getElem?_modify, h]

def bcells (bs : List UInt8) : List Value := bs.map fun b => Value.int .u8 b.toNat
theorem bcells_append (a b : List UInt8) : bcells (a ++ b) = bcells a ++ bcells b := by simp [bcells]
/-- The bytes bs lie in the row that a slice value owns (whatever block). -/
abbrev Owns (w : World) (v : Value) (bs : List UInt8) : Prop := w.ownsRow 0 5 1 v bs.length (bcells bs)

/-- At block b lies a Writer that New made; its bytes are bs; g: the block of its row. -/
def WrAt (w : World) (b : Nat) (g : Option Nat) (bs : List UInt8) : Prop :=
  ∃ ao c, w.heap[b]? = some (.cells #[.bool true, .slice ao bs.length c] 112 (0, 0)) ∧ Owns w (.slice ao bs.length c) bs ∧ g = ao.map (·.block)

theorem own_form {e : TypeId} {w : World} {v : Value} {n : Nat} {xs : List Value} (h : w.ownsRow 0 e 1 v n xs) : ∃ ao c, v = .slice ao n c ∧ v.ownBlock = ao.map (·.block) := by
  rcases h.2 with ⟨hv, h0⟩ | ⟨g, cap, cur, hv, _⟩
  · exact ⟨none, 0, by rw [hv, h0], by rw [hv]; rfl⟩
  · exact ⟨some ⟨g, 0, none⟩, cap, hv, by rw [hv]; rfl⟩

/-- A row's block is no block of another element type. -/
theorem own_ne {e : TypeId} {w : World} {v : Value} {n : Nat} {xs : List Value} (h : w.ownsRow 0 e 1 v n xs) {b : Nat} {cs : Array Value} {t : TypeId} {fr : Nat × Nat} (hb : w.heap[b]? = some (.cells cs t fr)) (ht : t ≠ e) : v.ownBlock ≠ some b := by
  rcases h.2 with ⟨hv, _⟩ | ⟨g, cap, cur, hv, _, hg, _⟩
  · rw [hv]; simp [Value.ownBlock]
  · rw [hv]; intro e
    have : g = b := by simpa [Value.ownBlock] using e
    subst this; rw [hg] at hb; simp at hb; exact ht hb.2.1.symm

theorem own_setCell {e : TypeId} {w : World} {v : Value} {n : Nat} {xs : List Value} (h : w.ownsRow 0 e 1 v n xs) {p : Addr} (hp : v.ownBlock ≠ some p.block) (u : Value) : (w.setCell p u).ownsRow 0 e 1 v n xs := by
  obtain ⟨h1, h2⟩ := h
  refine ⟨h1, ?_⟩
  rcases h2 with h2 | ⟨g, cap, cur, hv, hg, hh, r⟩
  · exact Or.inl h2
  · refine Or.inr ⟨g, cap, cur, hv, hg, ?_, r⟩
    rw [Below.heap_setCell _ _ _ _ (by intro e; apply hp; rw [hv, e]; rfl)]; exact hh

/-- From w to w' the Writer at b (its row at g, then at g') alone may have turned. -/
def WrStep (b : Nat) (g g' : Option Nat) (w w' : World) : Prop := Fr (fun k => k = b ∨ some k = g) w w' ∧ (∀ k, g' = some k → g = some k ∨ w.heap.size ≤ k)
theorem WrStep.refl (b : Nat) (g : Option Nat) (w : World) : WrStep b g g w w := ⟨Fr.refl _ _, fun _ h => Or.inl h⟩
theorem WrStep.trans {b : Nat} {g g1 g2 : Option Nat} {w w1 w2 : World} (h : WrStep b g g1 w w1) (k : WrStep b g1 g2 w1 w2) : WrStep b g g2 w w2 := by
  refine ⟨h.1.trans k.1 ?_, ?_⟩
  · rintro i hi (rfl | e)
    · exact Or.inl rfl
    · rcases h.2 i e.symm with h' | h'
      · exact Or.inr h'.symm
      · omega
  · intro i hi
    rcases k.2 i hi with h' | h'
    · exact h.2 i h'
    · right; exact Nat.le_trans h.1.size h'

/-- What an append to a Writer's row, and the store of the new slice, leave. -/
theorem wr_pushed {w w0 w1 : World} {b : Nat} {ao : Option Addr} {c : Nat} {bs ns : List UInt8} {v' : Value}
    (hblk : w.heap[b]? = some (.cells #[.bool true, .slice ao bs.length c] 112 (0, 0))) (hown0 : Owns w (.slice ao bs.length c) bs)
    (hf0 : Fr (fun _ => False) w w0) (hown : w1.ownsRow 0 5 1 v' (bs.length + ns.length) (bcells bs ++ bcells ns)) (hgrow : w0.grownBy w1 (Value.ownBlock (.slice ao bs.length c)))
    (hat : ∀ k, v'.ownBlock = some k → Value.ownBlock (.slice ao bs.length c) = some k ∨ w.heap.size ≤ k) :
    ∃ g', WrAt (w1.setCell ⟨b, 1, none⟩ v') b g' (bs ++ ns) ∧ WrStep b (ao.map (·.block)) g' w (w1.setCell ⟨b, 1, none⟩ v') := by
  have hb := lt_of_heap hblk
  have hrow : Value.ownBlock (.slice ao bs.length c) = ao.map (·.block) := by cases ao <;> rfl
  have hne : Value.ownBlock (.slice ao bs.length c) ≠ some b := own_ne hown0 hblk (by decide)
  have h1 : w1.heap[b]? = some (.cells #[.bool true, .slice ao bs.length c] 112 (0, 0)) := by
    rw [hgrow.block b (Nat.lt_of_lt_of_le hb hf0.size) (fun e => hne e.symm), hf0.block b hb (fun f => f)]; exact hblk
  obtain ⟨ao', c', hv', hob⟩ := own_form hown
  have hne' : v'.ownBlock ≠ some b := own_ne hown h1 (by decide)
  refine ⟨ao'.map (·.block), ⟨ao', c', ?_, ?_, rfl⟩, ?_, ?_⟩
  · rw [two_setCell h1, hv']; simp
  · unfold Owns; rw [bcells_append]; rw [hv'] at hown hne' ⊢; have := own_setCell hown (p := ⟨b, 1, none⟩) hne' (.slice ao' (bs.length + ns.length) c'); simpa using this
  · refine Fr.setCell ?_ (fun _ => Or.inl rfl) _
    refine (hf0.mono (fun _ _ f => f.elim)).grown hgrow ?_
    intro k hk _; right; rw [hrow] at hk; exact hk.symm
  · intro k hk
    have := hat k (by rw [hob]; exact hk)
    rwa [hrow] at this

/-- The Writer's own cells behind an append to its row. -/
theorem wr_cells {w w0 w1 : World} {b : Nat} {ao : Option Addr} {c : Nat} {bs : List UInt8}
    (hblk : w.heap[b]? = some (.cells #[.bool true, .slice ao bs.length c] 112 (0, 0))) (hown0 : Owns w (.slice ao bs.length c) bs)
    (hf0 : Fr (fun _ => False) w w0) (hgrow : w0.grownBy w1 (Value.ownBlock (.slice ao bs.length c))) :
    w1.cell? ⟨b, 0, none⟩ = some (.bool true) ∧ w1.cell? ⟨b, 1, none⟩ = some (.slice ao bs.length c) ∧ w1.frozen? ⟨b, 0, none⟩ = false ∧ w1.frozen? ⟨b, 1, none⟩ = false := by
  have hb := lt_of_heap hblk
  have hne : Value.ownBlock (.slice ao bs.length c) ≠ some b := own_ne hown0 hblk (by decide)
  refine cell_of_two (t := 112) ?_
  rw [hgrow.block b (Nat.lt_of_lt_of_le hb hf0.size) (fun e => hne e.symm), hf0.block b hb (fun f => f)]; exact hblk

/-- One byte appended to a Writer's row, and the new slice stored. -/
theorem wr_push {w w0 w1 : World} {b : Nat} {ao : Option Addr} {c : Nat} {bs : List UInt8} (x : UInt8) {X : Int} (hX : X = x.toNat) {g cap : Nat} (hf0 : Fr (fun _ => False) w w0)
    (hblk : w.heap[b]? = some (.cells #[.bool true, .slice ao bs.length c] 112 (0, 0))) (hown0 : Owns w (.slice ao bs.length c) bs)
    (hown : w1.ownsRow 0 5 1 (.slice (some ⟨g, 0, none⟩) (bs.length + 1) cap) (bs.length + 1) (bcells bs ++ [.int .u8 X])) (hgrow : w0.grownBy w1 (Value.ownBlock (.slice ao bs.length c)))
    (hat : Value.ownBlock (.slice ao bs.length c) = some g ∨ g = w.heap.size + 1) :
    ∃ g', WrAt (w1.setCell ⟨b, 1, none⟩ (.slice (some ⟨g, 0, none⟩) (bs.length + 1) cap)) b g' (bs ++ [x]) ∧ WrStep b (ao.map (·.block)) g' w (w1.setCell ⟨b, 1, none⟩ (.slice (some ⟨g, 0, none⟩) (bs.length + 1) cap)) := by
  subst hX
  refine wr_pushed (ns := [x]) hblk hown0 hf0 (by simpa [bcells] using hown) hgrow ?_
  intro k hk
  have : g = k := by simpa [Value.ownBlock] using hk
  subst this
  rcases hat with h | h
  · exact Or.inl h
  · right; omega

theorem bytes_length (s : ByteArray) : s.data.toList.length = s.size := Array.length_toList

/-- 'string(b)' of a row that is owned. -/
theorem owns_string {P : Program} {w : World} {v : Value} {bs : List UInt8} (h : Owns w v bs) (src dst : TypeId) (hs : P.underlying src = some (.slice 5)) (he : P.underlying 5 = some (.int .u8)) (hd : P.underlying dst = some .string) :
    (convert src dst v).run P w = .ok (.string ⟨bs.toArray⟩) w := by
  rcases h.2 with ⟨hv, h0⟩ | ⟨g, cap, cur, hv, _, hg, hnc, hcm, hcs, htake⟩
  · have : bs = [] := List.eq_nil_of_length_eq_zero h0
    subst this; subst hv
    rw [run_convert_bytes_string w src dst 5 none 0 0 hs he hd]
    simp [Conv.bytesToString]
    rfl
  · subst hv
    refine run_convert_bytes_back w src dst 5 ⟨g, 0, none⟩ cap bs hs he hd ?_
    intro j hj
    refine h.cells (g := g) rfl j _ ?_
    simp [bcells, hj]



theorem there_calls {w : World} {b : Nat} {v : Bool} (h0 : w.cell? ⟨b, 0, none⟩ = some (.bool v)) :
    Calls Try.prog 43 #[.pointer (some ⟨b, 0, none⟩)] w fun e w' => e = .returned (.bool v) ∧ w = w' := by
  go_enter Try.func43, Try.ntmps43
  go_wp2
  go_ret
  exact ⟨rfl, rfl⟩
theorem Try.info5 : (Try.prog.info? 5).map (fun i => (i.zero, i.size, i.bytes)) = some (some (.int .u8 0), 1, 1) := by kernel_rfl

set_option maxRecDepth 100000 in
set_option maxHeartbeats 400000 in
theorem wstring_calls {w : World} {b : Nat} {g : Option Nat} {bs : List UInt8} (h : WrAt w b g bs) :
    Calls Try.prog 31 #[.pointer (some ⟨b, 0, none⟩)] w fun e w' => e = .returned (.string ⟨bs.toArray⟩) ∧ w = w' := by
  obtain ⟨ao, c, hblk, hown, hg⟩ := id h
  obtain ⟨c0, c1, f0, f1⟩ := cell_of_two hblk
  have hcv := owns_string (P := Try.prog) hown 110 9 Try.underlying110 Try.underlying5 Try.underlying9
  go_enter Try.func31, Try.ntmps31
  go_wp2_with (go_at_call 43; refine (there_calls c0).mono ?_; rintro e w' ⟨rfl, rfl⟩)
  go_ret
  exact ⟨rfl, rfl⟩

set_option maxRecDepth 100000 in
set_option maxHeartbeats 4000000 in
theorem size_u32 (w : World) : Calls Try.prog 44 #[] w fun e w' => e = .returned (.int .i64 4) ∧ w = w' := by
  skip
  go_enter Try.func44, Try.ntmps44
  go_wp2
  go_rounds 33
  go_ret
  exact ⟨rfl, rfl⟩

def fixB : Nat → Int → List UInt8
  | 0, _ => []
  | n + 1, x => UInt8.ofNat ((x / 256 ^ n) % 256).toNat :: fixB n x
theorem shr_fix (kd : IntKind) (x : Int) (k : Nat) (h : 8 * k ≤ kd.bits) : Op.shift .shr kd x .i64 (IntKind.i64.wrap (8 * (k : Int))) = pure (.int kd (x / 256 ^ k)) := by
  have hk : kd.bits ≤ 64 := by cases kd <;> simp [IntKind.bits]
  have e : IntKind.i64.wrap (8 * (k : Int)) = ((8 * k : Nat) : Int) := by rw [IntKind.wrap_i64]; omega
  rw [e, shift_shr kd .i64 x _ (by omega) (by omega)]
  rw [Int.toNat_natCast, show (2 : Int) ^ (8 * k) = 256 ^ k from by rw [Int.pow_mul]; rfl]

theorem u8_of (y : Int) : IntKind.u8.wrap y = ((UInt8.ofNat (y % 256).toNat).toNat : Int) := by
  rw [IntKind.wrap_u8]; simp; omega

set_option maxRecDepth 100000 in
set_option maxHeartbeats 400000 in
theorem put_u32 {w : World} {b : Nat} {g : Option Nat} {bs : List UInt8} (x : Int) (h : WrAt w b g bs) (hl : bs.length ≤ 1000000000000) :
    Calls Try.prog 30 #[.pointer (some ⟨b, 0, none⟩), .int .u32 x] w fun e w' => e = .returned (.tuple #[]) ∧ ∃ g', WrAt w' b g' (bs ++ fixB 4 x) ∧ WrStep b g g' w w' := by
  obtain ⟨ao, c, hblk, hown, hg⟩ := id h
  obtain ⟨c0, c1, f0, f1⟩ := cell_of_two hblk
  obtain ⟨i0, hi, hz0, hz1, hz2⟩ := info_parts Try.info5
  go_enter Try.func30, Try.ntmps30
  go_wp2_with (first | (go_at_call 43; refine (there_calls c0).mono ?_; rintro e w' ⟨rfl, rfl⟩) | (go_at_call 44; refine (size_u32 _).mono ?_; rintro e w' ⟨rfl, rfl⟩))
  go_loopw [4] (fun iv wr => ∃ (k : Nat) (cur : List UInt8) (g1 : Option Nat), iv = .int .i64 ((k : Int) - 1) ∧ k ≤ 4 ∧ cur.length + k = bs.length + 4 ∧ WrAt wr b g1 cur ∧ Hid (cur ++ fixB k x = bs ++ fixB 4 x) ∧ WrStep b g g1 w wr)
    (fun iv _ => (intOf iv + 1).toNat)
  case atStart => exact ⟨4, bs, g, rfl, by omega, rfl, h, rfl, WrStep.refl _ _ _⟩
  case round =>
    obtain ⟨k, cur, g1, rfl, hk, hcl, hwr, hd, hst⟩ := hrel
    obtain ⟨ao1, c1', hblk1, hown1, hg1⟩ := id hwr
    obtain ⟨d0, d1, e0, e1⟩ := cell_of_two hblk1
    by_cases hpos : 0 < k
    · obtain ⟨k, rfl⟩ : ∃ k', k = k' + 1 := ⟨k - 1, by omega⟩
      have hlt := lt_of_heap hblk1
      have hnn : wr.heap.size ≠ b := by omega
      obtain ⟨y, hy, hsh⟩ : ∃ y, y = x / 256 ^ k ∧ Op.shift .shr .u32 x .i64 (IntKind.i64.wrap (8 * (k : Int))) = pure (.int .u32 y) := ⟨_, rfl, shr_fix .u32 x k (by simp [IntKind.bits]; omega)⟩
      have HY : Hid (y = x / 256 ^ k) := hy
      clear hy
      go_wp2_with fail
      go_region_law ((refine step_append_lies _ (by rfl) _ _ _ (by rfl) 0 5 i0 (.int .u8 0) 1 1 Try.underlying110 hi hz0 hz1 hz2 rfl (by decide) _ _ _ (by rfl) ((hown1.alloc _).drew) ⟨wr.heap.size, 0, none⟩ 1 1 _ (by rfl) (by rfl) (World.news_of_block (heap_alloc_new wr _)) (by simp [Value.oneCell']) (by decide) (by unfold maxLen; omega) (by omega) (Nat.zero_le _) (wr.heap.size + 1) (by simp) ?_; intro g2 cap w1 hown2 hgrow hat hlt; obtain ⟨q0, q1, q2, q3⟩ := wr_cells hblk1 hown1 (((Fr.refl _ wr).alloc _).drew) hgrow))
      all_goals
        obtain ⟨g', R1, R2⟩ := wr_push (UInt8.ofNat (y % 256).toNat) (u8_of y) (((Fr.refl _ wr).alloc _).drew) hblk1 hown1 hown2 hgrow hat
        subst hg1
        clear hown2 hgrow hat d0 d1 e0 e1
        go_wp2
        go_roundw
        case rel => exact ⟨k, cur ++ [UInt8.ofNat (y % 256).toNat], g', by go_num, by omega, by simp; omega, R1, by show _ = _; rw [← hd.out, HY.out, fixB]; simp, hst.trans R2⟩
        case measure => simp [intOf]
    · have hk0 : k = 0 := by omega
      subst hk0
      go_wp2
      go_end0
      refine ⟨rfl, g1, ?_, hst⟩
      have e := hd.out
      simp only [fixB, List.append_nil] at e
      simp only [fixB]
      rw [← e]; exact hwr

/-- At block b lies a Reader that Open made: of the bytes s, at the place p, with the fault's number c (0: none). -/
def RdAt (w : World) (b : Nat) (s : ByteArray) (p c : Nat) : Prop :=
  w.heap[b]? = some (.cells #[.bool true, .string s, .int .i64 p, .int .i64 c] 114 (0, 0)) ∧ p ≤ s.size ∧ s.size ≤ 281474976710656

theorem cell_of_four {w : World} {b : Nat} {x y z u : Value} {t : TypeId} (h : w.heap[b]? = some (.cells #[x, y, z, u] t (0, 0))) :
    w.cell? ⟨b, 0, none⟩ = some x ∧ w.cell? ⟨b, 1, none⟩ = some y ∧ w.cell? ⟨b, 2, none⟩ = some z ∧ w.cell? ⟨b, 3, none⟩ = some u ∧ w.frozen? ⟨b, 2, none⟩ = false ∧ w.frozen? ⟨b, 3, none⟩ = false := by
  refine ⟨?_, ?_, ?_, ?_, ?_, ?_⟩ <;> simp [World.cell?, World.frozen?, h]
theorem four_setCell2 {w : World} {b : Nat} {x y z u : Value} {t : TypeId} (h : w.heap[b]? = some (.cells #[x, y, z, u] t (0, 0))) (v : Value) :
    (w.setCell ⟨b, 2, none⟩ v).heap[b]? = some (.cells #[x, y, v, u] t (0, 0)) := by
  simp [World.setCell, Array.getElem?_modify, h]
theorem four_setCell3 {w : World} {b : Nat} {x y z u : Value} {t : TypeId} (h : w.heap[b]? = some (.cells #[x, y, z, u] t (0, 0))) (v : Value) :
    (w.setCell ⟨b, 3, none⟩ v).heap[b]? = some (.cells #[x, y, z, v] t (0, 0)) := by
  simp [World.setCell, Array.getElem?_modify, h]

/-- The Reader at b alone may have turned. -/
abbrev RdStep (b : Nat) (w w' : World) : Prop := Fr (fun k => k = b) w w'
/-- Nothing that was there has turned. -/
theorem Same.rd {w w' : World} (h : Same w w') (b : Nat) : RdStep b w w' := h.mono (fun _ _ f => f.elim)
theorem RdStep.trans {b : Nat} {w w1 w2 : World} (h : RdStep b w w1) (k : RdStep b w1 w2) : RdStep b w w2 := Fr.trans h k (fun _ _ t => t)
theorem RdAt.same {w w' : World} {b : Nat} {s : ByteArray} {p c : Nat} (h : RdAt w b s p c) (k : Same w w') : RdAt w' b s p c :=
  ⟨by rw [k.block b (lt_of_heap h.1) (fun f => f)]; exact h.1, h.2⟩
/-- What Raw answers: (bytes, place, fault). -/
def rRaw (s : ByteArray) (p c : Nat) (n : Int) : ByteArray × Nat × Nat :=
  if c = 0 then (if s.size - p < n.toNat then (⟨#[]⟩, p, 10) else (s.extract p (p + n.toNat), p + n.toNat, 0)) else (⟨#[]⟩, p, c)

theorem rthere_calls {w : World} {b : Nat} {v : Bool} (h0 : w.cell? ⟨b, 0, none⟩ = some (.bool v)) :
    Calls Try.prog 62 #[.pointer (some ⟨b, 0, none⟩)] w fun e w' => e = .returned (.bool v) ∧ w = w' := by
  go_enter Try.func62, Try.ntmps62
  go_wp2
  go_ret
  exact ⟨rfl, rfl⟩
theorem open_calls (w : World) (s : ByteArray) :
    Calls Try.prog 32 #[.string s] w fun e w' => e = .returned (.pointer (some ⟨w.heap.size, 0, none⟩)) ∧ w' = w.alloc (.cells #[.bool true, .string s, .int .i64 0, .int .i64 0] 114) := by
  go_enter Try.func32, Try.ntmps32
  go_wp2
  go_ret
  exact ⟨rfl, rfl⟩
theorem ret_int {k : IntKind} {a b : Int} (h : a = b) : Ending.returned (.int k a) = .returned (.int k b) := by rw [h]
theorem counted_calls (w : World) (n : Int) :
    Calls Try.prog 53 #[.int .i64 n] w fun e w' => e = .returned (.int .i64 (max n 0)) ∧ w = w' := by
  by_cases h : 0 ≤ n
  · go_enter Try.func53, Try.ntmps53
    go_wp2
    all_goals
      go_ret
      exact ⟨ret_int (by omega), rfl⟩
  · go_enter Try.func53, Try.ntmps53
    go_wp2
    all_goals
      go_ret
      exact ⟨ret_int (by omega), rfl⟩
theorem reads_calls {w : World} {b : Nat} {s : ByteArray} {p c : Nat} (h : RdAt w b s p c) :
    Calls Try.prog 52 #[.pointer (some ⟨b, 0, none⟩)] w fun e w' => e = .returned (.bool (c == 0)) ∧ w = w' := by
  obtain ⟨c0, c1, c2, c3, f2, f3⟩ := cell_of_four h.1
  have hc : ((c : Int) == 0) = (c == 0) := by cases hcc : (c == 0) <;> simp_all <;> omega
  go_enter Try.func52, Try.ntmps52
  go_wp2_with (go_at_call 62; refine (rthere_calls c0).mono ?_; rintro e w' ⟨rfl, rfl⟩)
  go_ret
  exact ⟨rfl, rfl⟩
theorem fail_calls {w : World} {b : Nat} {s : ByteArray} {p c : Nat} (h : RdAt w b s p c) (q d : Nat) (hq : q ≤ s.size) :
    Calls Try.prog 55 #[.pointer (some ⟨b, 0, none⟩), .int .i64 q, .int .i64 d] w fun e w' => e = .returned (.tuple #[]) ∧ RdAt w' b s q d ∧ RdStep b w w' := by
  obtain ⟨c0, c1, c2, c3, f2, f3⟩ := cell_of_four h.1
  go_enter Try.func55, Try.ntmps55
  go_wp2
  go_end0
  refine ⟨rfl, ⟨four_setCell3 (four_setCell2 h.1 _) _, hq, h.2.2⟩, ((Fr.refl (fun k => k = b) w).setCell (p := ⟨b, 2, none⟩) (fun _ => rfl) _).setCell (p := ⟨b, 3, none⟩) (fun _ => rfl) _⟩
set_option maxRecDepth 100000 in
theorem left_calls {w : World} {b : Nat} {s : ByteArray} {p c : Nat} (h : RdAt w b s p c) :
    Calls Try.prog 54 #[.pointer (some ⟨b, 0, none⟩)] w fun e w' => e = .returned (.int .i64 ((s.size : Int) - (p : Int))) ∧ Same w w' := by
  obtain ⟨c0, c1, c2, c3, f2, f3⟩ := cell_of_four h.1
  have hp := h.2.1
  have hs := h.2.2
  go_enter Try.func54, Try.ntmps54
  go_wp2_with (go_at_call 62; refine (rthere_calls c0).mono ?_; rintro e w' ⟨rfl, rfl⟩)
  go_quiet (fail)
  go_wp2
  go_ret
  exact ⟨rfl, (Fr.refl _ w).drewN _⟩

set_option maxRecDepth 100000 in
set_option maxHeartbeats 1000000 in
theorem rraw_calls {w : World} {b : Nat} {s : ByteArray} {p c : Nat} (h : RdAt w b s p c) (n : Int) (hn : n ≤ 9223372036854775807) :
    Calls Try.prog 45 #[.pointer (some ⟨b, 0, none⟩), .int .i64 n] w fun e w' => e = .returned (.string (rRaw s p c n).1) ∧ RdAt w' b s (rRaw s p c n).2.1 (rRaw s p c n).2.2 ∧ RdStep b w w' := by
  obtain ⟨c0, c1, c2, c3, f2, f3⟩ := cell_of_four h.1
  have hp := h.2.1
  have hs := h.2.2
  by_cases hc : c = 0
  · subst hc
    obtain ⟨m, hm⟩ : ∃ m : Nat, m = n.toNat := ⟨_, rfl⟩
    have hmx : max n 0 = (m : Int) := by omega
    have hx : rRaw s p 0 n = if s.size - p < m then (⟨#[]⟩, p, 10) else (s.extract p (p + m), p + m, 0) := by unfold rRaw; rw [if_pos rfl, ← hm]
    rw [hx]
    have HC : Hid (∀ W, Calls Try.prog 53 #[.int .i64 n] W fun e w' => e = .returned (.int .i64 m) ∧ W = w') := fun W => by
      have := counted_calls W n; rw [hmx] at this; exact this
    have hmb : m ≤ 9223372036854775807 := by omega
    clear hx hmx hm
    by_cases hlt : s.size - p < m
    · rw [if_pos hlt]
      have hlt' : (s.size : Int) - (p : Int) < (m : Int) := by omega
      go_enter Try.func45, Try.ntmps45
      go_wp2_with (first | (go_at_call 52; refine (reads_calls h).mono ?_; rintro e w' ⟨rfl, rfl⟩) | (go_at_call 53; refine (HC.out _).mono ?_; rintro e w' ⟨rfl, rfl⟩))
      refine (left_calls h).mono ?_
      rintro e w1 ⟨rfl, st1⟩
      have h1 := h.same st1
      obtain ⟨d0, d1, d2, d3, g2, g3⟩ := cell_of_four h1.1
      go_wp2_with fail
      refine (fail_calls h1 p 10 hp).mono ?_
      rintro e w2 ⟨rfl, h2, st2⟩
      go_wp2_with fail
      go_ret
      exact ⟨rfl, h2, RdStep.trans (Same.rd st1 b) st2⟩
    · rw [if_neg hlt]
      have hlt' : (m : Int) ≤ (s.size : Int) - (p : Int) := by omega
      go_enter Try.func45, Try.ntmps45
      go_wp2_with (first | (go_at_call 52; refine (reads_calls h).mono ?_; rintro e w' ⟨rfl, rfl⟩) | (go_at_call 53; refine (HC.out _).mono ?_; rintro e w' ⟨rfl, rfl⟩))
      refine (left_calls h).mono ?_
      rintro e w1 ⟨rfl, st1⟩
      have h1 := h.same st1
      obtain ⟨d0, d1, d2, d3, g2, g3⟩ := cell_of_four h1.1
      have hpm : p + m ≤ s.size := by omega
      have hw1 : IntKind.i64.wrap ((p : Int) + (m : Int) - (m : Int)) = (p : Int) := by rw [IntKind.wrap_i64]; omega
      go_wp2_with fail
      go_quiet (fail)
      go_wp2_with fail
      go_ret
      refine ⟨rfl, ⟨?_, hpm, hs⟩, ?_⟩
      · rw [show ((p + m : Nat) : Int) = (p : Int) + (m : Int) from by omega]
        exact four_setCell2 h1.1 (.int .i64 ((p : Int) + (m : Int)))
      · exact Fr.drewN (Fr.setCell (S := fun k => k = b) (p := ⟨b, 2, none⟩) (Same.rd st1 b) (fun _ => rfl) _) nq
  · have hx : rRaw s p c n = (⟨#[]⟩, p, c) := by unfold rRaw; rw [if_neg hc]
    rw [hx]
    have hcb : (c == 0) = false := by simpa using hc
    go_enter Try.func45, Try.ntmps45
    go_wp2_with (go_at_call 52; refine (reads_calls h).mono ?_; rintro e w' ⟨rfl, rfl⟩)
    go_ret
    exact ⟨rfl, h, Fr.refl _ _⟩


/-- The number whose bytes stand there, the highest first. -/
def beN (l : List UInt8) : Nat := l.foldl (fun x b => x * 256 + b.toNat) 0
theorem beN_snoc (l : List UInt8) (c : UInt8) : beN (l ++ [c]) = beN l * 256 + c.toNat := by simp [beN]
theorem beF_lt (l : List UInt8) (a : Nat) : l.foldl (fun x b => x * 256 + b.toNat) a < (a + 1) * 256 ^ l.length := by
  induction l generalizing a with
  | nil => simp
  | cons c l ih =>
    have h1 := ih (a * 256 + c.toNat)
    have h2 := c.toNat_lt
    have h3 : (a * 256 + c.toNat + 1) * 256 ^ l.length ≤ ((a + 1) * 256) * 256 ^ l.length := Nat.mul_le_mul_right _ (by omega)
    simp only [List.foldl_cons, List.length_cons]
    rw [Nat.pow_succ, Nat.mul_comm (256 ^ l.length) 256, ← Nat.mul_assoc]
    omega
theorem beN_lt (l : List UInt8) : beN l < 256 ^ l.length := by have := beF_lt l 0; unfold beN; simpa using this
theorem take_snoc (s : ByteArray) (k : Nat) (h : k < s.size) : s.data.toList.take (k + 1) = s.data.toList.take k ++ [s[k]] := by
  rw [List.take_succ_eq_append_getElem (by rw [bytes_length]; exact h)]; rfl
theorem or_byte (x c : Nat) (hx : x * 256 < 18446744073709551616) (hc : c < 256) : bits .or .u64 ((x : Int) * 256) (c : Int) = ((x * 256 + c : Nat) : Int) := by
  rw [show ((x : Int) * 256) = ((x * 256 : Nat) : Int) from by omega, u64_or_nat _ _ hx (by omega)]
  rw [show x * 256 = 2 ^ 8 * x from by omega, Nat.two_pow_add_eq_or_of_lt hc]

theorem str_bytes {P : Program} (w : World) (src dst e : TypeId) (s : ByteArray) (hs : P.underlying src = some .string) (hd : P.underlying dst = some (.slice e)) (he : P.underlying e = some (.int .u8)) :
    ∃ cs cap fr, (convert src dst (.string s)).run P w = .ok (.slice (some ⟨w.heap.size, 0, none⟩) s.size cap) (w.drew.alloc (.cells cs e fr)) ∧ ∀ k (h : k < s.size), (w.drew.alloc (.cells cs e fr)).cell? ⟨w.heap.size, k, none⟩ = some (.int .u8 s[k].toNat) := by
  refine ⟨_, _, _, run_bytes_of_string w src dst e s hs hd he, ?_⟩
  intro k h
  have hb := heap_alloc_new w.drew (.cells (bytesRow s (grownCap w s.size 0 e)) e ((bytesRow s (grownCap w s.size 0 e)).size, (bytesRow s (grownCap w s.size 0 e)).size + 1))
  show World.cell? _ ⟨w.drew.heap.size, k, none⟩ = _
  rw [cell_of_row _ _ _ _ _ _ hb]
  have h' : k < s.data.size := h
  unfold bytesRow
  rw [Array.getElem?_append_left (by simpa using h'), Array.getElem?_map, Array.getElem?_eq_getElem h']
  rfl

theorem rRaw_size (s : ByteArray) (p c : Nat) (n : Int) : (rRaw s p c n).1.size ≤ n.toNat := by
  unfold rRaw; split
  · split
    · simp [ByteArray.size]
    · simp; omega
  · simp [ByteArray.size]

set_option maxRecDepth 100000 in
set_option maxHeartbeats 1000000 in
theorem take_u32 {w : World} {b : Nat} {s : ByteArray} {p c : Nat} (h : RdAt w b s p c) :
    Calls Try.prog 33 #[.pointer (some ⟨b, 0, none⟩)] w fun e w' => e = .returned (.int .u32 (IntKind.u32.wrap (beN (rRaw s p c 4).1.data.toList))) ∧ RdAt w' b s (rRaw s p c 4).2.1 (rRaw s p c 4).2.2 ∧ RdStep b w w' := by
  have HR0 := rraw_calls h 4 (by decide)
  have hsz : (rRaw s p c 4).1.size ≤ 4 := rRaw_size s p c 4
  obtain ⟨t, p', c', hr⟩ : ∃ t p' c', rRaw s p c 4 = (t, p', c') := ⟨_, _, _, rfl⟩
  rw [hr] at HR0 hsz
  rw [hr]
  have HR : Hid (Calls Try.prog 45 #[.pointer (some ⟨b, 0, none⟩), .int .i64 4] w fun e w' => e = .returned (.string t) ∧ RdAt w' b s p' c' ∧ RdStep b w w') := HR0
  clear HR0 hr
  simp only at hsz
  go_enter Try.func33, Try.ntmps33
  go_wp2_with (go_at_call 44; refine (size_u32 _).mono ?_; rintro e w' ⟨rfl, rfl⟩)
  refine HR.out.mono ?_
  rintro e w1 ⟨rfl, h1, st1⟩
  obtain ⟨cs, cap, fr, hcv, hcell⟩ := str_bytes (P := Try.prog) w1 9 110 5 t Try.underlying9 Try.underlying110 Try.underlying5
  have HX : Hid (∀ k (h : k < t.size), (w1.alloc (.cells cs 5 fr)).cell? ⟨w1.heap.size, k, none⟩ = some (.int .u8 t[k].toNat)) := hcell
  clear hcell
  go_wp2_with fail
  go_loop [3, 11] (fun xv iv => ∃ k : Nat, k ≤ t.size ∧ iv = .int .i64 k ∧ xv = .int .u64 (beN (t.data.toList.take k))) (fun _ iv => t.size - (intOf iv).toNat)
  case atStart => exact ⟨0, by omega, rfl, rfl⟩
  case round =>
    obtain ⟨k, hk, rfl, rfl⟩ := hrel
    by_cases hlt : k < t.size
    · have hcx := HX.out k hlt
      have hx1 := beN_lt (t.data.toList.take k)
      have hx2 : 256 ^ (t.data.toList.take k).length ≤ 256 ^ 7 := Nat.pow_le_pow_right (by decide) (by rw [List.length_take]; omega)
      have HS := beN_snoc (t.data.toList.take k) t[k]
      rw [← take_snoc t k hlt] at HS
      obtain ⟨x, hx⟩ : ∃ x, x = beN (t.data.toList.take k) := ⟨_, rfl⟩
      rw [← hx] at hx1 HS ⊢
      have hx3 : x * 256 < 18446744073709551616 := by omega
      have htk : t[k].toNat < 256 := t[k].toNat_lt
      have hor := or_byte x t[k].toNat hx3 htk
      have HS' : Hid (beN (t.data.toList.take (k + 1)) = x * 256 + t[k].toNat) := HS
      clear HS hx hx1 hx2
      go_wp2
      go_round
      case rel => exact ⟨k + 1, by omega, by go_num, by rw [HS'.out]; go_num⟩
      case measure => simp [intOf]; omega
    · have hke : k = t.size := by omega
      have hx1 := beN_lt (t.data.toList.take k)
      have hx2 : 256 ^ (t.data.toList.take k).length ≤ 256 ^ 4 := Nat.pow_le_pow_right (by decide) (by rw [List.length_take]; omega)
      have hte : t.data.toList.take k = t.data.toList := by rw [List.take_of_length_le]; rw [bytes_length]; omega
      rw [hte] at hx1 hx2 ⊢
      obtain ⟨x, hx⟩ : ∃ x, x = beN t.data.toList := ⟨_, rfl⟩
      rw [← hx] at hx1 ⊢
      have hx3 : x < 256 ^ 4 := by omega
      have HE : Hid (x = beN t.data.toList) := hx
      clear hx hx1 hx2 hte
      go_wp2
      go_ret
      refine ⟨?_, h1.same ((Fr.refl _ w1).drew.alloc _), st1.trans ((Fr.refl _ w1).drew.alloc _)⟩
      refine ret_int ?_
      have e := HE.out
      subst e
      first
        | rfl
        | (rw [IntKind.wrap_u8]; omega)
        | (rw [IntKind.wrap_u16]; omega)
        | (rw [IntKind.wrap_u32]; omega)
        | (rw [IntKind.wrap_u64]; omega)
        | (unfold wrap32; rw [IntKind.wrap_i32])
        | (unfold wrap64; rw [IntKind.wrap_i64])

/-- A Writer at b that was made since w; its bytes are bs; what w had is as it was. -/
def WSt (w W : World) (b : Nat) (bs : List UInt8) : Prop := ∃ g, WrAt W b g bs ∧ w.heap.size ≤ b ∧ (∀ k, g = some k → w.heap.size ≤ k) ∧ Same w W
theorem WSt.keep {w W W' : World} {b : Nat} {g g' : Option Nat} {bs : List UInt8} (hb : w.heap.size ≤ b) (hg : ∀ k, g = some k → w.heap.size ≤ k) (s : Same w W) (h' : WrAt W' b g' bs) (st : WrStep b g g' W W') : WSt w W' b bs := by
  refine ⟨g', h', hb, ?_, ?_⟩
  · intro k hk
    rcases st.2 k hk with e | e
    · exact hg k e
    · exact Nat.le_trans s.size e
  · refine Fr.trans s st.1 ?_
    rintro i hi (e | e)
    · omega
    · have := hg i e.symm; omega
theorem wst_new (w : World) : WSt w (w.alloc (.cells #[.bool true, .slice none 0 0] 112)) w.heap.size [] :=
  ⟨none, ⟨none, 0, heap_alloc_new w _, World.ownsRow_nil _ _ _ _, rfl⟩, Nat.le_refl _, (by intro k h; cases h), (Fr.refl _ w).alloc _⟩
theorem wst_string {w W : World} {b : Nat} {bs : List UInt8} (h : WSt w W b bs) : Calls Try.prog 31 #[.pointer (some ⟨b, 0, none⟩)] W fun e w' => e = .returned (.string ⟨bs.toArray⟩) ∧ W = w' := by
  obtain ⟨g, h1, _⟩ := h
  exact wstring_calls h1
theorem wst_u32 {w W : World} {b : Nat} {bs : List UInt8} (x : Nat) (hx : x < 256 ^ 4) (h : WSt w W b bs) (hl : bs.length ≤ 1000000000000) :
    Calls Try.prog 30 #[.pointer (some ⟨b, 0, none⟩), .int .u32 x] W fun e w' => e = .returned (.tuple #[]) ∧ WSt w w' b (bs ++ fixB 4 x) := by
  obtain ⟨g, h1, h2, h3, h4⟩ := h
  have hx2 : x < 256 ^ 4 := hx
  refine (put_u32 (x : Int)   h1 hl).mono fun e w' ⟨he, g', hw', st⟩ => ⟨he, ?_⟩
  exact WSt.keep h2 h3 h4 hw' st

/-- A frame that may be. -/
def frameP (p q : Int) : Bool := (p == 1024 || p == 2048 || p == 4096 || p == 8192) && decide (1 ≤ q) && decide (q ≤ 32)
abbrev frameV (p q : Int) : Value := .agg #[.int .i64 p, .int .i64 q]
theorem WrStep.alloc (b : Nat) (g : Option Nat) (w : World) (o : Obj) : WrStep b g g w (w.alloc o) := ⟨(Fr.refl _ w).alloc _, fun _ h => Or.inl h⟩
/-- A block that is neither the Writer's nor its bytes' is as it was. -/
theorem WrStep.keep {b : Nat} {g g' : Option Nat} {w w' : World} (st : WrStep b g g' w w') {k : Nat} {o : Obj} (hk : w.heap[k]? = some o) (h1 : k ≠ b) (h2 : some k ≠ g) : w'.heap[k]? = some o :=
  (st.1.block k (lt_of_heap hk) (by rintro (e | e); exact h1 e; exact h2 e)).trans hk

set_option maxRecDepth 100000 in
theorem new_wst (w : World) : Calls Try.prog 29 #[] w fun e w' => e = .returned (.pointer (some ⟨w.heap.size, 0, none⟩)) ∧ WSt w w' w.heap.size [] := by
  have h := wst_new w
  go_enter Try.func29, Try.ntmps29
  go_wp2
  go_ret
  exact ⟨rfl, h⟩
set_option maxRecDepth 100000 in
theorem may_calls (p q : Int) (w : World) :
    Calls Try.prog 25 #[.agg #[.int .i64 p, .int .i64 q]] w fun e w' => e = .returned (.bool (frameP p q)) ∧ Same w w' := by
  go_enter Try.func25, Try.ntmps25
  go_wp2
  all_goals go_ret
  all_goals refine ⟨?_, by repeat' (first | exact Fr.refl _ _ | refine Fr.drewN ?_ _ | refine Fr.drew ?_ | refine Fr.setCell ?_ (fun h => by simp only at h; omega) _ | refine Fr.alloc ?_ _)⟩
  all_goals (simp [frameP, *]; try omega)

set_option maxRecDepth 100000 in
theorem rframe_calls (p q : Int) (w : World) : Calls Try.prog 21 #[frameV p q] w fun e w' => e = .returned (.bool (frameP p q)) ∧ Same w w' := by
  have sx : ∀ o : Obj, Same w (w.alloc o) := fun o => (Fr.refl _ w).alloc _
  by_cases hp : p = 1024 ∨ p = 2048 ∨ p = 4096 ∨ p = 8192
  · have e : frameP p q = (decide (1 ≤ q) && decide (q ≤ 32)) := by
      rcases hp with rfl | rfl | rfl | rfl <;> simp [frameP]
    rw [e]
    clear e
    by_cases h1 : 1 ≤ q
    · by_cases h2 : q ≤ 32
      · rw [decide_eq_true h1, decide_eq_true h2]
        rcases hp with rfl | rfl | rfl | rfl
        all_goals
          go_enter Try.func21, Try.ntmps21
          go_wp2
          go_ret
          exact ⟨rfl, sx _⟩
      · rw [decide_eq_true h1, decide_eq_false h2]
        rcases hp with rfl | rfl | rfl | rfl
        all_goals
          go_enter Try.func21, Try.ntmps21
          go_wp2
          go_ret
          exact ⟨rfl, sx _⟩
    · rw [decide_eq_false h1]
      rcases hp with rfl | rfl | rfl | rfl
      all_goals
        go_enter Try.func21, Try.ntmps21
        go_wp2
        go_ret
        exact ⟨rfl, sx _⟩
  · have h1 : (p == 1024) = false := by rw [beq_eq_false_iff_ne]; omega
    have h2 : (p == 2048) = false := by rw [beq_eq_false_iff_ne]; omega
    have h3 : (p == 4096) = false := by rw [beq_eq_false_iff_ne]; omega
    have h4 : (p == 8192) = false := by rw [beq_eq_false_iff_ne]; omega
    have e : frameP p q = false := by rw [frameP, h1, h2, h3, h4]; rfl
    rw [e]
    clear e hp
    go_enter Try.func21, Try.ntmps21
    go_wp2
    go_ret
    exact ⟨rfl, sx _⟩

end Go.Proofs.Ytajbifblbmlffaa
