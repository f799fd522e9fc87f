/- Picked: N6, NT, NX. -/
import Derived.WalkKit
import Derived.WalkSpells
import Derived.WalkLawsBesides
import Derived.Deep.AppendLies
import Derived.Lib.AppendStr
import Derived.Laws.IdiomStrings
import Derived.Test.YtmgkdnejjemfeaaProg
import Derived.Deep.LoopGhost
import Derived.Laws.Rows
import Derived.Deep.MidRow
import Derived.Deep.DeepMust
import Derived.Handy
import Derived.Laws.BitsAllLaws
import Derived.Deep.RegionLaw
import Derived.Deep.DrawnRows
import Derived.Lib.Strings
import Derived.Deep.QuietTactic
import Derived.BigQuiet
import Derived.Laws.ResultCell
import Derived.Laws.CopyOwn
import Derived.ChangeKeysEq
import Derived.BigFrame
import Derived.Deep.RegionHeld3
import Derived.Laws.DeepNot64
import Derived.Lib.LazyBuf
import Derived.Deep.OwnRows
import Derived.Laws.AppendOwn
namespace Go.Proofs.Ytmgkdnejjemfeaa
open Go.RowKit


/-- Of the blocks that were there those of S alone may have turned; the streams are as they were. -/
structure Fr (S : Nat → Prop) (w w' : World) : Prop where
  os : w'.os = w.os
  tape : w'.tape = w.tape
  output : w'.output = w.output
  size : w.heap.size ≤ w'.heap.size
  block : ∀ k, k < w.heap.size → ¬ S k → w'.heap[k]? = w.heap[k]?

theorem Fr.refl (S : Nat → Prop) (w : World) : Fr S w w := ⟨rfl, rfl, rfl, Nat.le_refl _, fun _ _ _ => rfl⟩
theorem Fr.trans {S T : Nat → Prop} {a b c : World} (h : Fr S a b) (k : Fr T b c) (hT : ∀ i, i < a.heap.size → T i → S i) : Fr S a c :=
  ⟨k.os.trans h.os, k.tape.trans h.tape, k.output.trans h.output, Nat.le_trans h.size k.size, fun i hi hn => (k.block i (Nat.lt_of_lt_of_le hi h.size) (fun t => hn (hT i hi t))).trans (h.block i hi hn)⟩
theorem Fr.mono {S T : Nat → Prop} {a b : World} (h : Fr S a b) (hT : ∀ i, i < a.heap.size → S i → T i) : Fr T a b :=
  ⟨h.os, h.tape, h.output, h.size, fun i hi hn => h.block i hi (fun s => hn (hT i hi s))⟩
theorem Fr.drew {S : Nat → Prop} {a w : World} (h : Fr S a w) : Fr S a w.drew := ⟨h.os, h.tape, h.output, h.size, h.block⟩
theorem Fr.alloc {S : Nat → Prop} {a w : World} (h : Fr S a w) (o : Obj) : Fr S a (w.alloc o) :=
  h.trans (T := S) ⟨rfl, rfl, rfl, by simp, fun k hk _ => Below.heap_alloc _ _ _ (by omega)⟩ (fun _ _ t => t)
theorem Fr.setCell {S : Nat → Prop} {a w : World} (h : Fr S a w) {p : Addr} (hp : p.block < a.heap.size → S p.block) (u : Value) : Fr S a (w.setCell p u) :=
  h.trans (T := fun k => k = p.block) ⟨rfl, rfl, rfl, by simp [World.setCell], fun k _ hn => Below.heap_setCell _ _ _ _ hn⟩ (fun i hi e => by subst e; exact hp hi)
theorem Fr.grown {S : Nat → Prop} {a w w' : World} {row : Option Nat} (h : Fr S a w) (hg : w.grownBy w' row) (hr : ∀ k, row = some k → k < a.heap.size → S k) : Fr S a w' :=
  h.trans (T := fun k => some k = row) ⟨hg.os, hg.tape, hg.output, hg.size, fun k hk hn => hg.block k hk (fun e => hn e)⟩ (fun i hi e => hr i e.symm hi)
theorem Fr.cell {S : Nat → Prop} {w w' : World} (h : Fr S w w') {p : Addr} (hp : p.block < w.heap.size) (hn : ¬ S p.block) : w'.cell? p = w.cell? p := World.cell?_of_block (w := w) (h.block p.block hp hn)
theorem lt_of_heap {w : World} {b : Nat} {o : Obj} (h : w.heap[b]? = some o) : b < w.heap.size := by
  rcases Nat.lt_or_ge b w.heap.size with hlt | hge
  · exact hlt
  · rw [Array.getElem?_eq_none hge] at h; cases h

/-- Nothing that was there has turned. -/
abbrev Same (w w' : World) : Prop := Fr (fun _ => False) w w'
theorem Same.trans {w w1 w2 : World} (h : Same w w1) (k : Same w1 w2) : Same w w2 := Fr.trans h k (fun _ _ f => f)
theorem Same.keep {w w' : World} (h : Same w w') {a : Addr} {v : Value} (hc : w.cell? a = some v) : w'.cell? a = some v := (h.cell (World.block_lt_of_cell? _ _ hc) (fun f => f)).trans hc

def bcells (bs : List UInt8) : List Value := bs.map fun b => Value.int .u8 b.toNat
theorem bcells_append (a b : List UInt8) : bcells (a ++ b) = bcells a ++ bcells b := by simp [bcells]
theorem bcells_length (a : List UInt8) : (bcells a).length = a.length := by simp [bcells]


/-- A frame that may be. -/
def frameP (p q : Int) : Bool := (p == 1024 || p == 2048 || p == 4096 || p == 8192) && decide (1 ≤ q) && decide (q ≤ 32)
theorem frameP_cases {p q : Int} (h : frameP p q = true) : (p = 1024 ∨ p = 2048 ∨ p = 4096 ∨ p = 8192) ∧ 1 ≤ q ∧ q ≤ 32 := by
  simp only [frameP, Bool.and_eq_true, Bool.or_eq_true, beq_iff_eq, decide_eq_true_eq] at h
  omega
abbrev frameV (p q : Int) : Value := .agg #[.int .i64 p, .int .i64 q]
/-- A kid: its page, its digest. -/
structure Kid where
  page : Nat
  d : List UInt8
structure KidOk (k : Kid) : Prop where
  page : k.page < 4294967296
  d : k.d.length = 32
def kcells (k : Kid) : List Value := .int .u32 k.page :: bcells k.d
theorem kcells_length {k : Kid} (h : k.d.length = 32) : (kcells k).length = 33 := by simp [kcells, bcells_length, h]
abbrev kidV (k : Kid) : Value := .agg (kcells k).toArray
/-- A node: its pairs, separators, kids. -/
structure Nd where
  ps : List (ByteArray × ByteArray)
  ss : List ByteArray
  ks : List Kid
/-- Pairs, texts, kids in a row: where it lies, and what it holds. -/
structure PRow (w : World) (pa : Option Addr) (pb po : Nat) (ps : List (ByteArray × ByteArray)) : Prop where
  place : ps ≠ [] → pa = some ⟨pb, po, none⟩ ∧ pb < w.heap.size
  cells : ∀ j x, ps[j]? = some x → w.cell? ⟨pb, po + j * 2, none⟩ = some (.string x.1) ∧ w.cell? ⟨pb, po + j * 2 + 1, none⟩ = some (.string x.2)
structure TRow (w : World) (pa : Option Addr) (pb po : Nat) (ss : List ByteArray) : Prop where
  place : ss ≠ [] → pa = some ⟨pb, po, none⟩ ∧ pb < w.heap.size
  cells : ∀ j x, ss[j]? = some x → w.cell? ⟨pb, po + j, none⟩ = some (.string x)
structure KRow (w : World) (pa : Option Addr) (pb po : Nat) (ks : List Kid) : Prop where
  place : ks ≠ [] → pa = some ⟨pb, po, none⟩ ∧ pb < w.heap.size
  cells : ∀ j x, ks[j]? = some x → w.rangeAt pb (po + j * 33) (kcells x)
theorem PRow.same {w w' : World} {pa : Option Addr} {pb po : Nat} {ps : List (ByteArray × ByteArray)} (h : PRow w pa pb po ps) (s : Same w w') : PRow w' pa pb po ps :=
  ⟨fun e => ⟨(h.place e).1, Nat.lt_of_lt_of_le (h.place e).2 s.size⟩, fun j x hx => ⟨s.keep (h.cells j x hx).1, s.keep (h.cells j x hx).2⟩⟩
theorem TRow.same {w w' : World} {pa : Option Addr} {pb po : Nat} {ps : List ByteArray} (h : TRow w pa pb po ps) (s : Same w w') : TRow w' pa pb po ps :=
  ⟨fun e => ⟨(h.place e).1, Nat.lt_of_lt_of_le (h.place e).2 s.size⟩, fun j x hx => s.keep (h.cells j x hx)⟩
theorem KRow.same {w w' : World} {pa : Option Addr} {pb po : Nat} {ps : List Kid} (h : KRow w pa pb po ps) (s : Same w w') : KRow w' pa pb po ps :=
  ⟨fun e => ⟨(h.place e).1, Nat.lt_of_lt_of_le (h.place e).2 s.size⟩, fun j x hx i v hv => s.keep (h.cells j x hx i v hv)⟩
/-- A node's value: three slices. -/
abbrev nodeV (pa : Option Addr) (np cp : Nat) (sa : Option Addr) (ns cs : Nat) (ka : Option Addr) (nk ck : Nat) : Value := .agg #[.slice pa np cp, .slice sa ns cs, .slice ka nk ck]

set_option maxRecDepth 100000 in
theorem right_calls (p q : Int) (w : World) : Calls Try.prog 40 #[frameV p q] w fun e w' => e = .returned (.bool (frameP p q)) ∧ Same w w' := by
  have sx : ∀ o : Obj, Same w (w.alloc o) := fun o => (Fr.refl _ w).alloc _
  by_cases hp : p = 1024 ∨ p = 2048 ∨ p = 4096 ∨ p = 8192
  · have e : frameP p q = (decide (1 ≤ q) && decide (q ≤ 32)) := by
      rcases hp with rfl | rfl | rfl | rfl <;> simp [frameP]
    rw [e]
    clear e
    by_cases h1 : 1 ≤ q
    · by_cases h2 : q ≤ 32
      · rw [decide_eq_true h1, decide_eq_true h2]
        rcases hp with rfl | rfl | rfl | rfl
        all_goals
          go_enter Try.func40, Try.ntmps40
          go_wp2
          go_ret
          exact ⟨rfl, sx _⟩
      · rw [decide_eq_true h1, decide_eq_false h2]
        rcases hp with rfl | rfl | rfl | rfl
        all_goals
          go_enter Try.func40, Try.ntmps40
          go_wp2
          go_ret
          exact ⟨rfl, sx _⟩
    · rw [decide_eq_false h1]
      rcases hp with rfl | rfl | rfl | rfl
      all_goals
        go_enter Try.func40, Try.ntmps40
        go_wp2
        go_ret
        exact ⟨rfl, sx _⟩
  · have h1 : (p == 1024) = false := by rw [beq_eq_false_iff_ne]; omega
    have h2 : (p == 2048) = false := by rw [beq_eq_false_iff_ne]; omega
    have h3 : (p == 4096) = false := by rw [beq_eq_false_iff_ne]; omega
    have h4 : (p == 8192) = false := by rw [beq_eq_false_iff_ne]; omega
    have e : frameP p q = false := by rw [frameP, h1, h2, h3, h4]; rfl
    rw [e]
    clear e hp
    go_enter Try.func40, Try.ntmps40
    go_wp2
    go_ret
    exact ⟨rfl, sx _⟩

set_option maxRecDepth 100000 in
theorem MaxKey_calls {p q : Int} (hp : p = 1024 ∨ p = 2048 ∨ p = 4096 ∨ p = 8192) (w : World) : Calls Try.prog 51 #[frameV p q] w fun e w' => e = .returned (.int .i64 (p / 16)) ∧ Same w w' := by
  have sx : ∀ o : Obj, Same w (w.alloc o) := fun o => (Fr.refl _ w).alloc _
  rcases hp with rfl | rfl | rfl | rfl
  all_goals
    go_enter Try.func51, Try.ntmps51
    go_wp2
    go_ret
    exact ⟨rfl, sx _⟩
set_option maxRecDepth 100000 in
theorem MaxVal_calls {p q : Int} (hp : p = 1024 ∨ p = 2048 ∨ p = 4096 ∨ p = 8192) (w : World) : Calls Try.prog 28 #[frameV p q] w fun e w' => e = .returned (.int .i64 (p / 8)) ∧ Same w w' := by
  have sx : ∀ o : Obj, Same w (w.alloc o) := fun o => (Fr.refl _ w).alloc _
  rcases hp with rfl | rfl | rfl | rfl
  all_goals
    go_enter Try.func28, Try.ntmps28
    go_wp2
    go_ret
    exact ⟨rfl, sx _⟩
def leafB (N : Nd) : Bool := decide (N.ss.length = 0) && decide (N.ks.length = 0)
theorem lenz (n : Nat) : ((n : Int) == 0) = decide (n = 0) := by rw [Bool.eq_iff_iff, beq_iff_eq, decide_eq_true_eq]; omega
set_option maxRecDepth 100000 in
theorem isLeaf_core (pa sa ka : Option Addr) (np cp ns cs nk ck : Nat) (w : World) :
    Calls Try.prog 41 #[nodeV pa np cp sa ns cs ka nk ck] w fun e w' => e = .returned (.bool (decide (ns = 0) && decide (nk = 0))) ∧ Same w w' := by
  have sx : ∀ o : Obj, Same w (w.alloc o) := fun o => (Fr.refl _ w).alloc _
  have e1 := lenz ns
  have e2 := lenz nk
  obtain ⟨b1, h1⟩ : ∃ b, b = decide (ns = 0) := ⟨_, rfl⟩
  obtain ⟨b2, h2⟩ : ∃ b, b = decide (nk = 0) := ⟨_, rfl⟩
  rw [← h1] at e1 ⊢
  rw [← h2] at e2 ⊢
  clear h1 h2
  cases b1
  · go_enter Try.func41, Try.ntmps41
    go_wp2_with fail
    go_ret
    exact ⟨rfl, sx _⟩
  · go_enter Try.func41, Try.ntmps41
    go_wp2_with fail
    go_ret
    exact ⟨rfl, sx _⟩


/-- Each key above the one ahead, and not too long. -/
def risesP (mk : Int) : ByteArray → List ByteArray → Bool
  | _, [] => true
  | ahead, k :: l => if (Op.bytesLess k.toList ahead.toList || k.toList == ahead.toList) = true then false else if mk < (k.size : Int) then false else risesP mk k l

set_option maxRecDepth 100000 in
theorem pairKey_calls (k v : ByteArray) (w : World) : Calls Try.prog 64 #[.agg #[.string k, .string v]] w fun e w' => e = .returned (.string k) ∧ Same w w' := by
  go_enter Try.func64, Try.ntmps64
  go_wp2
  go_ret
  exact ⟨rfl, (Fr.refl _ w).alloc _⟩
set_option maxRecDepth 100000 in
theorem sepKey_calls (k : ByteArray) (w : World) : Calls Try.prog 69 #[.string k] w fun e w' => e = .returned (.string k) ∧ Same w w' := by
  go_enter Try.func69, Try.ntmps69
  go_wp2
  go_ret
  exact ⟨rfl, Fr.refl _ w⟩

set_option maxRecDepth 100000 in
set_option maxHeartbeats 1000000 in
theorem risesPairs_calls {p q : Int} (hp : p = 1024 ∨ p = 2048 ∨ p = 4096 ∨ p = 8192) {pa : Option Addr} {pb po cp : Nat} {ps : List (ByteArray × ByteArray)} (w : World) (hr : PRow w pa pb po ps) (hn : ps.length ≤ 4611686018427387904) :
    Calls Try.prog 63 #[frameV p q, .slice pa ps.length cp, .func (.func 64) #[] #[]] w fun e w' => e = .returned (.bool (risesP (p / 16) ⟨#[]⟩ (ps.map (·.1)))) ∧ Same w w' := by
  have HK : Hid (∀ k v W, Calls Try.prog 64 #[.agg #[.string k, .string v]] W fun e w' => e = .returned (.string k) ∧ Same W w') := pairKey_calls
  have HM : Hid (∀ W, Calls Try.prog 51 #[frameV p q] W fun e w' => e = .returned (.int .i64 (p / 16)) ∧ Same W w') := MaxKey_calls hp
  obtain ⟨mk, hmk⟩ : ∃ mk : Int, mk = p / 16 := ⟨_, rfl⟩
  rw [← hmk] at HM ⊢
  obtain ⟨V, hV⟩ : ∃ V, V = w.alloc (.cells #[.int .i64 p, .int .i64 q] 23) := ⟨_, rfl⟩
  have sx : Same w V := by rw [hV]; exact (Fr.refl _ w).alloc _
  have HC : Hid (∀ W, Same V W → W.cell? ⟨w.heap.size, 0, none⟩ = some (.int .i64 p) ∧ W.cell? ⟨w.heap.size, 1, none⟩ = some (.int .i64 q)) := fun W h => ⟨h.keep (by rw [hV]; simp), h.keep (by rw [hV]; simp)⟩
  have HR : Hid (PRow V pa pb po ps) := hr.same sx
  obtain ⟨n, hnn⟩ : ∃ n, n = ps.length := ⟨_, rfl⟩
  rw [← hnn] at hn ⊢
  have HN : Hid (n = ps.length) := hnn
  clear hp hmk hr hnn
  go_enter Try.func63, Try.ntmps63
  go_wp2_with fail
  rw [← hV]
  clear hV
  go_loopg [7, 13] n (fun g av iv wr => ∃ (k : Nat) (A : ByteArray), av = .string A ∧ iv = .int .i64 (k : Int) ∧ k ≤ n ∧ g = n - k ∧ Hid (risesP mk ⟨#[]⟩ (ps.map (·.1)) = risesP mk A ((ps.drop k).map (·.1))) ∧ Same V wr)
  case atStart => exact ⟨0, ⟨#[]⟩, rfl, rfl, by omega, rfl, rfl, Fr.refl _ V⟩
  case round =>
    obtain ⟨k, A, rfl, rfl, hk, hg, HI, sr⟩ := hrel
    by_cases hgo : k < n
    · obtain ⟨x, hx⟩ : ∃ x, ps[k]? = some x := ⟨_, List.getElem?_eq_getElem (by rw [← HN.out]; exact hgo)⟩
      obtain ⟨a, b⟩ := x
      have hc := (HR.out.same sr).cells k (a, b) hx
      have hc0 := hc.1
      have hc1 := hc.2
      obtain ⟨hpa, hlt⟩ := (HR.out.same sr).place (by intro e; rw [e] at hx; simp at hx)
      subst hpa
      have hdrop : ps.drop k = (a, b) :: ps.drop (k + 1) := by
        have hl : k < ps.length := by rw [← HN.out]; exact hgo
        have e : ps[k] = (a, b) := by rw [List.getElem?_eq_getElem hl] at hx; exact Option.some.inj hx
        rw [List.drop_eq_getElem_cons hl, e]
      have HI2 : Hid (risesP mk ⟨#[]⟩ (ps.map (·.1)) = if (Op.bytesLess a.toList A.toList || a.toList == A.toList) = true then false else if mk < (a.size : Int) then false else risesP mk a ((ps.drop (k + 1)).map (·.1))) := by
        show _ = _
        rw [HI.out, hdrop]; rfl
      obtain ⟨bl, hbl⟩ : ∃ bl, (Op.bytesLess a.toList A.toList || a.toList == A.toList) = bl := ⟨_, rfl⟩
      rw [hbl] at HI2
      obtain ⟨d0, d1⟩ := HC.out _ sr
      clear hc hx hdrop HI
      have s1 : Same V (wr.alloc (.cells #[.string a, .string b] 48)) := sr.alloc _
      go_wp2_with fail
      refine (HK.out a b _).mono ?_
      rintro e W1 ⟨rfl, s2⟩
      have t1 := Same.trans s1 s2
      obtain ⟨d0, d1⟩ := HC.out _ t1
      clear s1 s2 hc0 hc1
      cases bl
      · go_wp2_with fail
        refine (HM.out _).mono ?_
        rintro e W2 ⟨rfl, s3⟩
        have t2 := t1.trans s3
        clear t1 s3 d0 d1
        by_cases hz : mk < (a.size : Int)
        · have hr : Hid (risesP mk ⟨#[]⟩ (ps.map (·.1)) = false) := by show _ = _; rw [HI2.out, if_neg (by simp), if_pos hz]
          go_wp2_with fail
          go_ret
          exact ⟨by rw [hr.out]; rfl, sx.trans t2⟩
        · have HI3 : Hid (risesP mk ⟨#[]⟩ (ps.map (·.1)) = risesP mk a ((ps.drop (k + 1)).map (·.1))) := by
            show _ = _
            rw [HI2.out, if_neg (by simp), if_neg hz]
          have hz' : decide (mk < (a.size : Int)) = false := decide_eq_false hz
          clear hz HI2
          go_wp2_with fail
          go_roundg (n - (k + 1))
          case measure => omega
          case rel => exact ⟨k + 1, a, rfl, by go_num, by omega, rfl, HI3, t2⟩
      · have hr : Hid (risesP mk ⟨#[]⟩ (ps.map (·.1)) = false) := by show _ = _; rw [HI2.out, if_pos rfl]
        go_wp2_with fail
        go_ret
        exact ⟨by rw [hr.out]; rfl, sx.trans t1⟩
    · obtain rfl : k = n := by omega
      have hr : Hid (risesP mk ⟨#[]⟩ (ps.map (·.1)) = true) := by
        show _ = _
        rw [HI.out, HN.out, List.drop_length]; rfl
      clear HI
      go_wp2_with fail
      go_ret
      exact ⟨by rw [hr.out]; rfl, sx.trans sr⟩


set_option maxRecDepth 100000 in
set_option maxHeartbeats 1000000 in
theorem risesTexts_calls {p q : Int} (hp : p = 1024 ∨ p = 2048 ∨ p = 4096 ∨ p = 8192) {pa : Option Addr} {pb po cp : Nat} {ps : List ByteArray} (w : World) (hr : TRow w pa pb po ps) (hn : ps.length ≤ 4611686018427387904) :
    Calls Try.prog 68 #[frameV p q, .slice pa ps.length cp, .func (.func 69) #[] #[]] w fun e w' => e = .returned (.bool (risesP (p / 16) ⟨#[]⟩ ps)) ∧ Same w w' := by
  have HK : Hid (∀ k W, Calls Try.prog 69 #[.string k] W fun e w' => e = .returned (.string k) ∧ Same W w') := sepKey_calls
  have HM : Hid (∀ W, Calls Try.prog 51 #[frameV p q] W fun e w' => e = .returned (.int .i64 (p / 16)) ∧ Same W w') := MaxKey_calls hp
  obtain ⟨mk, hmk⟩ : ∃ mk : Int, mk = p / 16 := ⟨_, rfl⟩
  rw [← hmk] at HM ⊢
  obtain ⟨V, hV⟩ : ∃ V, V = w.alloc (.cells #[.int .i64 p, .int .i64 q] 23) := ⟨_, rfl⟩
  have sx : Same w V := by rw [hV]; exact (Fr.refl _ w).alloc _
  have HC : Hid (∀ W, Same V W → W.cell? ⟨w.heap.size, 0, none⟩ = some (.int .i64 p) ∧ W.cell? ⟨w.heap.size, 1, none⟩ = some (.int .i64 q)) := fun W h => ⟨h.keep (by rw [hV]; simp), h.keep (by rw [hV]; simp)⟩
  have HR : Hid (TRow V pa pb po ps) := hr.same sx
  obtain ⟨n, hnn⟩ : ∃ n, n = ps.length := ⟨_, rfl⟩
  rw [← hnn] at hn ⊢
  have HN : Hid (n = ps.length) := hnn
  clear hp hmk hr hnn
  go_enter Try.func68, Try.ntmps68
  go_wp2_with fail
  rw [← hV]
  clear hV
  go_loopg [7, 13] n (fun g av iv wr => ∃ (k : Nat) (A : ByteArray), av = .string A ∧ iv = .int .i64 (k : Int) ∧ k ≤ n ∧ g = n - k ∧ Hid (risesP mk ⟨#[]⟩ ps = risesP mk A (ps.drop k)) ∧ Same V wr)
  case atStart => exact ⟨0, ⟨#[]⟩, rfl, rfl, by omega, rfl, rfl, Fr.refl _ V⟩
  case round =>
    obtain ⟨k, A, rfl, rfl, hk, hg, HI, sr⟩ := hrel
    by_cases hgo : k < n
    · obtain ⟨a, hx⟩ : ∃ x, ps[k]? = some x := ⟨_, List.getElem?_eq_getElem (by rw [← HN.out]; exact hgo)⟩
      have hc := (HR.out.same sr).cells k a hx
      have hc0 := hc
      obtain ⟨hpa, hlt⟩ := (HR.out.same sr).place (by intro e; rw [e] at hx; simp at hx)
      subst hpa
      have hdrop : ps.drop k = a :: ps.drop (k + 1) := by
        have hl : k < ps.length := by rw [← HN.out]; exact hgo
        have e : ps[k] = a := by rw [List.getElem?_eq_getElem hl] at hx; exact Option.some.inj hx
        rw [List.drop_eq_getElem_cons hl, e]
      have HI2 : Hid (risesP mk ⟨#[]⟩ ps = if (Op.bytesLess a.toList A.toList || a.toList == A.toList) = true then false else if mk < (a.size : Int) then false else risesP mk a (ps.drop (k + 1))) := by
        show _ = _
        rw [HI.out, hdrop]; rfl
      obtain ⟨bl, hbl⟩ : ∃ bl, (Op.bytesLess a.toList A.toList || a.toList == A.toList) = bl := ⟨_, rfl⟩
      rw [hbl] at HI2
      obtain ⟨d0, d1⟩ := HC.out _ sr
      clear hc hx hdrop HI
      go_wp2_with fail
      refine (HK.out a _).mono ?_
      rintro e W1 ⟨rfl, s2⟩
      have t1 := Same.trans sr s2
      obtain ⟨d0, d1⟩ := HC.out _ t1
      clear s2 hc0
      cases bl
      · go_wp2_with fail
        refine (HM.out _).mono ?_
        rintro e W2 ⟨rfl, s3⟩
        have t2 := t1.trans s3
        clear t1 s3 d0 d1
        by_cases hz : mk < (a.size : Int)
        · have hr : Hid (risesP mk ⟨#[]⟩ ps = false) := by show _ = _; rw [HI2.out, if_neg (by simp), if_pos hz]
          go_wp2_with fail
          go_ret
          exact ⟨by rw [hr.out]; rfl, sx.trans t2⟩
        · have HI3 : Hid (risesP mk ⟨#[]⟩ ps = risesP mk a (ps.drop (k + 1))) := by
            show _ = _
            rw [HI2.out, if_neg (by simp), if_neg hz]
          have hz' : decide (mk < (a.size : Int)) = false := decide_eq_false hz
          clear hz HI2
          go_wp2_with fail
          go_roundg (n - (k + 1))
          case measure => omega
          case rel => exact ⟨k + 1, a, rfl, by go_num, by omega, rfl, HI3, t2⟩
      · have hr : Hid (risesP mk ⟨#[]⟩ ps = false) := by show _ = _; rw [HI2.out, if_pos rfl]
        go_wp2_with fail
        go_ret
        exact ⟨by rw [hr.out]; rfl, sx.trans t1⟩
    · obtain rfl : k = n := by omega
      have hr : Hid (risesP mk ⟨#[]⟩ ps = true) := by
        show _ = _
        rw [HI.out, HN.out, List.drop_length]; rfl
      clear HI
      go_wp2_with fail
      go_ret
      exact ⟨by rw [hr.out]; rfl, sx.trans sr⟩

/-- The first place at which it says yes; -1, if there is none. -/
def firstAt {α : Type} (f : α → Bool) (l : List α) : Int := match l.findIdx? f with | some i => i | none => -1
theorem firstAt_any {α : Type} (f : α → Bool) (l : List α) : decide (0 ≤ firstAt f l) = l.any f := by
  unfold firstAt
  cases h : l.findIdx? f with
  | none =>
    have : l.any f = false := by rw [List.findIdx?_eq_none_iff] at h; rw [List.any_eq_false]; intro x hx; rw [h x hx]; simp
    rw [this]; rfl
  | some i =>
    have : l.any f = true := by
      rw [List.findIdx?_eq_some_iff_getElem] at h
      obtain ⟨hi, hy, _⟩ := h
      rw [List.any_eq_true]
      exact ⟨l[i], List.getElem_mem hi, hy⟩
    rw [this]; simp


theorem firstAt_hit {α : Type} {f : α → Bool} {l : List α} {k : Nat} {y : α} (h : ∀ j x, j < k → l[j]? = some x → f x = false) (hy : l[k]? = some y) (hf : f y = true) : firstAt f l = (k : Int) := by
  have hk := (List.getElem?_eq_some_iff.1 hy)
  obtain ⟨hl, he⟩ := hk
  have : l.findIdx? f = some k := by
    rw [List.findIdx?_eq_some_iff_getElem]
    refine ⟨hl, by rw [he]; exact hf, fun j hj => ?_⟩
    rw [h j l[j] hj (List.getElem?_eq_getElem _)]; simp
  unfold firstAt
  rw [this]
theorem firstAt_none {α : Type} {f : α → Bool} {l : List α} (h : ∀ j x, j < l.length → l[j]? = some x → f x = false) : firstAt f l = -1 := by
  have : l.findIdx? f = none := by
    rw [List.findIdx?_eq_none_iff]
    intro x hx
    obtain ⟨j, hj, rfl⟩ := List.getElem_of_mem hx
    exact h j _ hj (List.getElem?_eq_getElem hj)
  unfold firstAt
  rw [this]
theorem Try.infoKid : (Try.prog.info? 59).map (·.size) = some 33 := by kernel_rfl

set_option maxRecDepth 100000 in
set_option maxHeartbeats 1000000 in
theorem index_long (f : ByteArray × ByteArray → Bool) {pa : Option Addr} {pb po cp fb : Nat} {ps : List (ByteArray × ByteArray)} (w : World) (hr : PRow w pa pb po ps) (hn : ps.length ≤ 4611686018427387904)
    (HF : Hid (∀ x W, Same w W → Calls Try.prog 62 #[.agg #[.string x.1, .string x.2], .pointer (some ⟨fb, 0, none⟩)] W fun e w' => e = .returned (.bool (f x)) ∧ Same W w')) :
    Calls Try.prog 76 #[.slice pa ps.length cp, .func (.func 62) #[] #[.pointer (some ⟨fb, 0, none⟩)]] w fun e w' => e = .returned (.int .i64 (firstAt f ps)) ∧ Same w w' := by
  have HR : Hid (PRow w pa pb po ps) := hr
  obtain ⟨n, hnn⟩ : ∃ n, n = ps.length := ⟨_, rfl⟩
  rw [← hnn] at hn ⊢
  have HN : Hid (n = ps.length) := hnn
  clear hr hnn
  go_enter Try.func76, Try.ntmps76
  go_wp2_with fail
  go_loopg [8] n (fun g iv wr => ∃ (k : Nat), iv = .int .i64 (k : Int) ∧ k ≤ n ∧ g = n - k ∧ Hid (∀ j x, j < k → ps[j]? = some x → f x = false) ∧ Same w wr)
  case atStart => exact ⟨0, rfl, by omega, rfl, fun j x hj => by omega, Fr.refl _ w⟩
  case round =>
    obtain ⟨k, rfl, hk, hg, HI, sr⟩ := hrel
    by_cases hgo : k < n
    · obtain ⟨x, hx⟩ : ∃ x, ps[k]? = some x := ⟨_, List.getElem?_eq_getElem (by rw [← HN.out]; exact hgo)⟩
      have hc := (HR.out.same sr).cells k x hx
      obtain ⟨hpa, hlt⟩ := (HR.out.same sr).place (by intro e; rw [e] at hx; simp at hx)
      subst hpa
      have HX : Hid (ps[k]? = some x) := hx
      have hc0 := hc.1
      have hc1 := hc.2
      clear hc hx
      go_wp2_with fail
      refine (HF.out x _ sr).mono ?_
      rintro e W1 ⟨rfl, s1⟩
      have t1 := sr.trans s1
      obtain ⟨b, hb⟩ : ∃ b, f x = b := ⟨_, rfl⟩
      rw [hb]
      cases b
      · have HI2 : Hid (∀ j x, j < k + 1 → ps[j]? = some x → f x = false) := fun j y hj hy => by
          by_cases e : j = k
          · rw [e, HX.out] at hy; rw [← Option.some.inj hy]; exact hb
          · exact HI.out j y (by omega) hy
        clear HI hb
        go_wp2_with fail
        go_roundg (n - (k + 1))
        case measure => omega
        case rel => exact ⟨k + 1, by go_num, by omega, rfl, HI2, t1⟩
      · have hr : Hid (firstAt f ps = (k : Int)) := firstAt_hit HI.out HX.out hb
        clear HI hb
        go_wp2_with fail
        go_ret
        exact ⟨by rw [hr.out]; rfl, t1⟩
    · obtain rfl : k = n := by omega
      have hr : Hid (firstAt f ps = -1) := firstAt_none (fun j x hj hx => HI.out j x (by rw [HN.out]; exact hj) hx)
      clear HI
      go_wp2_with fail
      go_ret
      exact ⟨by rw [hr.out]; rfl, sr⟩
set_option maxRecDepth 100000 in
theorem contains_long (f : ByteArray × ByteArray → Bool) {pa : Option Addr} {pb po cp fb : Nat} {ps : List (ByteArray × ByteArray)} (w : World) (hr : PRow w pa pb po ps) (hn : ps.length ≤ 4611686018427387904)
    (HF : Hid (∀ x W, Same w W → Calls Try.prog 62 #[.agg #[.string x.1, .string x.2], .pointer (some ⟨fb, 0, none⟩)] W fun e w' => e = .returned (.bool (f x)) ∧ Same W w')) :
    Calls Try.prog 65 #[.slice pa ps.length cp, .func (.func 62) #[] #[.pointer (some ⟨fb, 0, none⟩)]] w fun e w' => e = .returned (.bool (ps.any f)) ∧ Same w w' := by
  have HI : Hid (Calls Try.prog 76 #[.slice pa ps.length cp, .func (.func 62) #[] #[.pointer (some ⟨fb, 0, none⟩)]] w fun e w' => e = .returned (.int .i64 (firstAt f ps)) ∧ Same w w') := index_long f w hr hn HF
  have hany : decide (0 ≤ firstAt f ps) = ps.any f := firstAt_any f ps
  generalize firstAt f ps = F at *
  generalize ps.any f = b at *
  generalize ps.length = n at *
  clear hr HF
  go_enter Try.func65, Try.ntmps65
  go_wp2_with fail
  refine HI.out.mono ?_
  rintro e W1 ⟨rfl, s1⟩
  go_wp2_with fail
  go_ret
  exact ⟨rfl, s1⟩

set_option maxRecDepth 100000 in
set_option maxHeartbeats 1000000 in
theorem index_loose (f : Kid → Bool) {pa : Option Addr} {pb po cp fb : Nat} {ps : List (Kid)} (w : World) (hr : KRow w pa pb po ps) (hn : ps.length ≤ 4611686018427387904) (hok : ∀ x ∈ ps, KidOk x)
    (HF : Hid (∀ x W, KidOk x → Same w W → Calls Try.prog 66 #[kidV x, .pointer (some ⟨fb, 0, none⟩)] W fun e w' => e = .returned (.bool (f x)) ∧ Same W w')) :
    Calls Try.prog 78 #[.slice pa ps.length cp, .func (.func 66) #[] #[.pointer (some ⟨fb, 0, none⟩)]] w fun e w' => e = .returned (.int .i64 (firstAt f ps)) ∧ Same w w' := by
  have HR : Hid (KRow w pa pb po ps) := hr
  obtain ⟨n, hnn⟩ : ∃ n, n = ps.length := ⟨_, rfl⟩
  rw [← hnn] at hn ⊢
  have HN : Hid (n = ps.length) := hnn
  clear hr hnn
  go_enter Try.func78, Try.ntmps78
  go_wp2_with fail
  go_loopg [8] n (fun g iv wr => ∃ (k : Nat), iv = .int .i64 (k : Int) ∧ k ≤ n ∧ g = n - k ∧ Hid (∀ j x, j < k → ps[j]? = some x → f x = false) ∧ Same w wr)
  case atStart => exact ⟨0, rfl, by omega, rfl, fun j x hj => by omega, Fr.refl _ w⟩
  case round =>
    obtain ⟨k, rfl, hk, hg, HI, sr⟩ := hrel
    by_cases hgo : k < n
    · obtain ⟨x, hx⟩ : ∃ x, ps[k]? = some x := ⟨_, List.getElem?_eq_getElem (by rw [← HN.out]; exact hgo)⟩
      have hc := (HR.out.same sr).cells k x hx
      obtain ⟨hpa, hlt⟩ := (HR.out.same sr).place (by intro e; rw [e] at hx; simp at hx)
      subst hpa
      have HX : Hid (ps[k]? = some x) := hx
      have hkl : (Try.prog.info? 59).map (·.size) = some (kcells x).length := by rw [Try.infoKid, kcells_length (hok x (List.mem_of_getElem? hx)).d]
      have hox := hok x (List.mem_of_getElem? hx)
      clear hx
      go_wp2_with (refine wpList_load_mid (by rfl) 59 _ (by rfl) pb (po + k * 33) (by rfl) (kcells x) _ hc Try.underlying59 rfl hkl ?_)
      refine (HF.out x _ hox sr).mono ?_
      rintro e W1 ⟨rfl, s1⟩
      have t1 := sr.trans s1
      obtain ⟨b, hb⟩ : ∃ b, f x = b := ⟨_, rfl⟩
      rw [hb]
      cases b
      · have HI2 : Hid (∀ j x, j < k + 1 → ps[j]? = some x → f x = false) := fun j y hj hy => by
          by_cases e : j = k
          · rw [e, HX.out] at hy; rw [← Option.some.inj hy]; exact hb
          · exact HI.out j y (by omega) hy
        clear HI hb
        go_wp2_with fail
        go_roundg (n - (k + 1))
        case measure => omega
        case rel => exact ⟨k + 1, by go_num, by omega, rfl, HI2, t1⟩
      · have hr : Hid (firstAt f ps = (k : Int)) := firstAt_hit HI.out HX.out hb
        clear HI hb
        go_wp2_with fail
        go_ret
        exact ⟨by rw [hr.out]; rfl, t1⟩
    · obtain rfl : k = n := by omega
      have hr : Hid (firstAt f ps = -1) := firstAt_none (fun j x hj hx => HI.out j x (by rw [HN.out]; exact hj) hx)
      clear HI
      go_wp2_with fail
      go_ret
      exact ⟨by rw [hr.out]; rfl, sr⟩
set_option maxRecDepth 100000 in
theorem contains_loose (f : Kid → Bool) {pa : Option Addr} {pb po cp fb : Nat} {ps : List (Kid)} (w : World) (hr : KRow w pa pb po ps) (hn : ps.length ≤ 4611686018427387904) (hok : ∀ x ∈ ps, KidOk x)
    (HF : Hid (∀ x W, KidOk x → Same w W → Calls Try.prog 66 #[kidV x, .pointer (some ⟨fb, 0, none⟩)] W fun e w' => e = .returned (.bool (f x)) ∧ Same W w')) :
    Calls Try.prog 70 #[.slice pa ps.length cp, .func (.func 66) #[] #[.pointer (some ⟨fb, 0, none⟩)]] w fun e w' => e = .returned (.bool (ps.any f)) ∧ Same w w' := by
  have HI : Hid (Calls Try.prog 78 #[.slice pa ps.length cp, .func (.func 66) #[] #[.pointer (some ⟨fb, 0, none⟩)]] w fun e w' => e = .returned (.int .i64 (firstAt f ps)) ∧ Same w w') := index_loose f w hr hn hok HF
  have hany : decide (0 ≤ firstAt f ps) = ps.any f := firstAt_any f ps
  generalize firstAt f ps = F at *
  generalize ps.any f = b at *
  generalize ps.length = n at *
  clear hr HF
  go_enter Try.func70, Try.ntmps70
  go_wp2_with fail
  refine HI.out.mono ?_
  rintro e W1 ⟨rfl, s1⟩
  go_wp2_with fail
  go_ret
  exact ⟨rfl, s1⟩

theorem setCells_row {w : World} {b : Nat} {t : TypeId} (vs : List Value) (o : Nat) (old : Array Value) (h : w.heap[b]? = some (.cells old t (0, 0))) : ∃ A, (w.setCells b o vs).heap[b]? = some (.cells A t (0, 0)) ∧ A.size = old.size := by
  induction vs generalizing w o old with
  | nil => exact ⟨old, h, rfl⟩
  | cons v vs ih =>
    obtain ⟨A, h1, h2⟩ := ih (o + 1) _ (heap_setCell_same w b o old t v h)
    exact ⟨A, h1, by rw [h2]; simp⟩
theorem setCells_whole {w : World} {b : Nat} {t : TypeId} (vs : List Value) (old : Array Value) (h : w.heap[b]? = some (.cells old t (0, 0))) (hl : old.size = vs.length) (ht : w.there b 0 vs.length) : (w.setCells b 0 vs).heap[b]? = some (.cells vs.toArray t (0, 0)) := by
  obtain ⟨A, h1, h2⟩ := setCells_row vs 0 old h
  have hr := World.rangeAt_setCells_same w b 0 vs ht
  have : A = vs.toArray := by
    apply Array.ext
    · simpa using h2.trans hl
    · intro j hj1 hj2
      have hj3 : j < vs.length := by simpa using hj2
      have := hr j vs[j] (List.getElem?_eq_getElem hj3)
      rw [Nat.zero_add, cell_of_row _ _ _ _ _ _ h1, Array.getElem?_eq_getElem hj1] at this
      injection this with this
  rw [h1, this]
theorem Fr.setCells {S : Nat → Prop} {a : World} {b : Nat} (hb : b < a.heap.size → S b) (vs : List Value) : ∀ (o : Nat) (w : World), Fr S a w → Fr S a (w.setCells b o vs) := by
  induction vs with
  | nil => intro o w h; exact h
  | cons v vs ih => intro o w h; exact ih (o + 1) _ (h.setCell (p := ⟨b, o, none⟩) hb v)
theorem there_row {w : World} {b n : Nat} {t : TypeId} {old : Array Value} (h : w.heap[b]? = some (.cells old t (0, 0))) (hn : n = old.size) : w.there b 0 n := by
  intro j hj
  rw [Nat.zero_add]
  refine ⟨?_, frozen_of_row w b j old t h⟩
  rw [cell_of_row _ _ _ _ _ _ h, Array.getElem?_eq_getElem (by omega)]; rfl


theorem setRow_fr (w : World) (g : Nat) (cs : Array Value) : Fr (fun k => k = g) w (w.setRow g cs) :=
  ⟨rfl, rfl, rfl, by simp [World.setRow], fun k _ hn => setRow_other w g k cs hn⟩
theorem bcells_one (l : List UInt8) : (bcells l).toArray.all (·.oneCell') = true :=
  all_oneCell_toArray (by intro v hv; simp only [bcells, List.mem_map] at hv; obtain ⟨c, _, rfl⟩ := hv; rfl)
/-- A whole array stored into a block of its own. -/
theorem wpList_store_whole {P : Program} {ops : Array Oper} {rest : List Oper} {op : Oper} {a : Act} {w : World} {Q : Exit → Act → World → Prop} (hgd : op.guard = none) (ty : TypeId) (x y : Operand) (ho : op.op = .store ty x y)
    (b : Nat) (cells old : Array Value) (t : TypeId) (hx : a.eval x = .pointer (some ⟨b, 0, none⟩)) (hy : a.eval y = .agg cells) (hb : w.heap[b]? = some (.cells old t (0, 0))) (hl : old.size = cells.size)
    (hi : (P.info? ty).map (·.size) = some cells.size) (h1 : cells.all (·.oneCell') = true)
    (h : ∀ w', w'.heap[b]? = some (.cells cells t (0, 0)) → Fr (fun k => k = b) w w' → wpList P ops Q rest (a.put op.dst undef) w') : wpList P ops Q (op :: rest) a w := by
  have hth : w.there b 0 cells.size := there_row hb hl.symm
  refine wpList_store_mid hgd ty x y ho b 0 cells hx hy hth hi h1 (h _ ?_ (Fr.setCells (S := fun k => k = b) (fun _ => rfl) _ 0 w (Fr.refl _ w)))
  have := setCells_whole cells.toList old hb (by rw [hl, Array.length_toList]) (by rw [Array.length_toList]; exact hth)
  rwa [Array.toArray_toList] at this

theorem Try.szU8 (W : World) : (sizeOf 5).run Try.prog W = .ok 1 W := by kernel_rfl
theorem Try.alenD : Try.prog.arrayLen 57 = 32 := by kernel_rfl
theorem Try.aelemD : Try.prog.elem 57 = 5 := by kernel_rfl
theorem Try.aundD : Try.prog.underlying 57 = some (.array (Try.prog.arrayLen 57) (Try.prog.elem 57)) := by kernel_rfl
theorem Try.ainfoD : (Try.prog.info? 57).map (·.size) = some 32 := by kernel_rfl
theorem slice_dig (W : World) (g k : Nat) (hk : k < 32) : (Instr.sliceAt 57 (.pointer (some ⟨g, 0, none⟩)) (some (.int .i64 (k : Int))) none none).run Try.prog W = .ok (.slice (some ⟨g, k, none⟩) (32 - k) (32 - k)) W := by
  rw [run_sliceAt_array_l W 57 ⟨g, 0, none⟩ Try.aundD .i64 k (by omega) (by rw [Try.alenD]; omega), Try.aelemD, Try.szU8, Try.alenD]
  have h8 : ¬ 32 = k := by omega
  by_cases h0 : k = 0
  · subst h0; simp [slicedAt, Addr.add]
  · simp [slicedAt, Addr.add, h8, h0]

set_option maxRecDepth 100000 in
set_option maxHeartbeats 400000 in
theorem may_calls (w : World) (wd : Int) : Calls Try.prog 83 #[.int .i64 wd] w fun e w' => e = .returned (.bool (decide (1 ≤ wd ∧ wd ≤ 32))) ∧ w' = w := by
  by_cases h1 : 1 ≤ wd
  · by_cases h2 : wd ≤ 32
    · rw [decide_eq_true ⟨h1, h2⟩]
      go_enter Try.func83, Try.ntmps83
      go_wp2
      go_ret
      exact ⟨rfl, rfl⟩
    · rw [decide_eq_false (by omega)]
      go_enter Try.func83, Try.ntmps83
      go_wp2
      go_ret
      exact ⟨rfl, rfl⟩
  · rw [decide_eq_false (by omega)]
    go_enter Try.func83, Try.ntmps83
    go_wp2
    go_ret
    exact ⟨rfl, rfl⟩

theorem results_row_tmp {P : Program} {fn : Func} {p u : Tmp} {ty : TypeId} (h : fn.results = #[.cell p ty, .tmp u]) (tmps : Array Value) (w : World) (g : Nat) (t : TypeId) (cs : Array Value) (fr : Nat × Nat) (d : TypeDesc)
    (hp : tmps.getD p undef = .pointer (some ⟨g, 0, none⟩)) (hg : w.heap[g]? = some (.cells cs t fr))
    (hu : P.underlying ty = some d) (hd : (match d with | .struct _ | .array _ _ => true | _ => false) = true) (hi : (P.info? ty).map (·.size) = some cs.size) :
    (results fn tmps).run P w = .ok (.tuple #[.agg cs, tmps.getD u undef]) w := by
  have hp' : tmps[p]?.getD undef = .pointer (some ⟨g, 0, none⟩) := by simpa using hp
  simp [results, h, hp', asAddr, run_loadVar_row w g t ty cs fr d hg hu hd hi]

theorem zeroCells_one (v : Value) (n : Nat) : (Builtin.zeroCells #[v] n).toList = List.replicate n v := by
  apply List.ext_getElem?
  intro i
  by_cases h : i < n
  · simp [Builtin.zeroCells, h, Nat.mod_one]
  · simp [Builtin.zeroCells, h]
theorem run_clear {P : Program} {w : World} (t ty elem : TypeId) (hu : P.underlying t = some (.slice elem)) (z : Value) (hz : (zeroValue elem).run P w = .ok z w) (hz1 : z.cells = #[z]) (hz2 : z.oneCell' = true)
    (g off n c : Nat) (cur : List Value) (tt : TypeId) (hg : w.heap[g]? = some (.cells cur.toArray tt (0, 0))) (hfit : off + (n + 1) ≤ cur.length) :
    (Builtin.clear_ #[t] ty #[.slice (some ⟨g, off, none⟩) (n + 1) c]).run P w = .ok (.tuple #[]) (w.setRow g (splice cur off (List.replicate (n + 1) z)).toArray) := by
  have hst := run_storeCells_at P g off tt (List.replicate (n + 1) z) 0 cur.toArray w hg (by simpa using hfit) (by intro v hv; rw [List.eq_of_mem_replicate hv]; exact hz2)
  have e : (cur.toArray.toList.take (off + 0) ++ List.replicate (n + 1) z ++ cur.toArray.toList.drop (off + 0 + (List.replicate (n + 1) z).length)).toArray = (splice cur off (List.replicate (n + 1) z)).toArray := by
    simp [splice]
  rw [e] at hst
  simp [Builtin.clear_, hst, run_underlying hu, hz, hz1, zeroCells_one, Result.andThen]

/-- A digest cut at a width. -/
def cutD (k : Nat) (D : List UInt8) : List UInt8 := D.take k ++ List.replicate (32 - k) 0
theorem cutD_length (k : Nat) (D : List UInt8) (h : D.length = 32) : (cutD k D).length = 32 := by
  unfold cutD; rw [List.length_append, List.length_take, List.length_replicate]; omega
theorem cut_splice (k : Nat) (D : List UInt8) (h : D.length = 32) (hk : k < 32) : splice (bcells D) k (List.replicate (31 - k + 1) (.int .u8 0)) = bcells (cutD k D) := by
  unfold splice cutD
  rw [bcells_append, List.length_replicate, List.drop_of_length_le (by rw [bcells_length]; omega), List.append_nil]
  simp [bcells, List.map_take]
  omega
def cutE (wd : Int) : Int := if 1 ≤ wd ∧ wd ≤ 32 then 0 else 2
def cutR (wd : Int) (D : List UInt8) : List UInt8 := if 1 ≤ wd ∧ wd ≤ 32 then cutD wd.toNat D else List.replicate 32 0

set_option maxRecDepth 100000 in
set_option maxHeartbeats 1000000 in
theorem cut_calls (w : World) (wd : Int) (D : List UInt8) (hD : D.length = 32) : Calls Try.prog 77 #[.int .i64 wd, .agg (bcells D).toArray] w fun e w' => e = .returned (.tuple #[.agg (bcells (cutR wd D)).toArray, .int .i64 (cutE wd)]) ∧ Same w w' := by
  have HM : Hid (∀ W, Calls Try.prog 83 #[.int .i64 wd] W fun e w' => e = .returned (.bool (decide (1 ≤ wd ∧ wd ≤ 32))) ∧ w' = W) := fun W => may_calls W wd
  have hR32 : (cutR wd D).length = 32 := by
    unfold cutR
    by_cases h : 1 ≤ wd ∧ wd ≤ 32
    · rw [if_pos h]; exact cutD_length _ _ hD
    · rw [if_neg h]; simp
  have hCR : Hid ((1 ≤ wd ∧ wd ≤ 32 → cutR wd D = cutD wd.toNat D ∧ cutE wd = 0) ∧ (¬ (1 ≤ wd ∧ wd ≤ 32) → cutR wd D = List.replicate 32 0 ∧ cutE wd = 2)) := by
    refine ⟨fun h => ?_, fun h => ?_⟩
    · unfold cutR cutE; rw [if_pos h, if_pos h]; exact ⟨rfl, rfl⟩
    · unfold cutR cutE; rw [if_neg h, if_neg h]; exact ⟨rfl, rfl⟩
  obtain ⟨R, hR⟩ : ∃ R, R = (bcells (cutR wd D)).toArray := ⟨_, rfl⟩
  have hRs : R.size = 32 := by rw [hR]; simp [bcells, hR32]
  have hRsz : (Try.prog.info? 57).map (·.size) = some R.size := by rw [Try.ainfoD, hRs]
  have hRone : R.all (·.oneCell') = true := by rw [hR]; exact bcells_one _
  have HRES : Hid (∀ (tmps : Array Value) (W : World), W.heap[w.heap.size + 1]? = some (.cells R 57 (0, 0)) → tmps.getD 4 undef = .pointer (some ⟨w.heap.size + 1, 0, none⟩) → (results Try.f77 tmps).run Try.prog W = .ok (.tuple #[.agg R, tmps.getD 5 undef]) W) := fun tmps W h hp => results_row_tmp (p := 4) (u := 5) (ty := 57) (by kernel_rfl) tmps _ (w.heap.size + 1) 57 _ (0, 0) _ hp h Try.underlying57 rfl hRsz
  have HR : Hid (R = (bcells (cutR wd D)).toArray) := hR
  rw [← hR]
  obtain ⟨DA, hDA⟩ : ∃ A, A = (bcells D).toArray := ⟨_, rfl⟩
  have hDAr : (w.alloc (.cells DA 57)).heap[w.heap.size]? = some (.cells (bcells D).toArray 57 (0, 0)) := by rw [hDA]; exact heap_alloc_new w _
  rw [← hDA]
  clear hR hDA hR32
  by_cases h1 : 1 ≤ wd ∧ wd ≤ 32
  · rw [decide_eq_true h1] at HM
    obtain ⟨e1, e2⟩ := hCR.out.1 h1
    rw [e2]
    rw [e1] at HR
    obtain ⟨k, hk⟩ : ∃ k : Nat, wd = (k : Int) := ⟨wd.toNat, by omega⟩
    subst hk
    rw [Int.toNat_natCast] at HR
    have hbl := bcells_length D
    clear e1 e2 hCR
    go_enter Try.func77, Try.ntmps77
    go_wp2_with fail
    refine (HM.out _).mono ?_
    rintro e W1 ⟨rfl, hW1⟩
    obtain ⟨Z, rz, hZ⟩ : ∃ Z : Array Value, W1.heap[w.heap.size + 1]? = some (.cells Z 57 (0, 0)) ∧ Z.size = 32 := by rw [hW1]; exact ⟨_, heap_alloc2_new w _ _, rfl⟩
    have rd : W1.heap[w.heap.size]? = some (.cells (bcells D).toArray 57 (0, 0)) := by rw [hW1, Below.heap_alloc _ _ _ (by simp)]; exact hDAr
    have s1 : Same w W1 := by rw [hW1]; exact ((Fr.refl _ w).alloc _).alloc _
    clear hW1 hDAr
    by_cases h32 : k = 32
    · subst h32
      have hsl : ∀ W, (Instr.sliceAt 57 (.pointer (some ⟨w.heap.size, 0, none⟩)) (some (.int .i64 32)) none none).run Try.prog W = .ok (.slice (some ⟨w.heap.size, 0, none⟩) 0 0) W := by
        intro W
        rw [run_sliceAt_array_l W 57 ⟨w.heap.size, 0, none⟩ Try.aundD .i64 32 (by omega) (by rw [Try.alenD]; omega), Try.aelemD, Try.szU8, Try.alenD]
        simp [slicedAt]
      have hcl : ∀ W, (Builtin.clear_ #[96] 0 #[.slice (some ⟨w.heap.size, 0, none⟩) 0 0]).run Try.prog W = .ok (.tuple #[]) W := by
        intro W
        simp [Builtin.clear_, run_underlying Try.underlying96, Result.andThen]
      have hRD : R = (bcells D).toArray := by
        rw [HR.out]
        unfold cutD
        rw [List.take_of_length_le (by omega)]
        simp
      rw [← hRD] at rd
      clear hRD
      go_wp2_with (first | (refine wpList_load_row (by rfl) 57 _ (by rfl) w.heap.size (by rfl) 57 R (0, 0) _ rd Try.underlying57 rfl hRsz ?_) | (refine wpList_store_whole (by rfl) 57 _ _ (by rfl) (w.heap.size + 1) R Z 57 (by rfl) (by rfl) rz (by rw [hRs, hZ]) hRsz hRone ?_; intro W5 r5 f5))
      exact bodyPost_ret (HRES.out _ _ r5 rfl) rfl ⟨rfl, Fr.trans s1 f5 (fun i hi e => by omega)⟩
    · have hk32 : k < 32 := by omega
      have hsl := fun W => slice_dig W w.heap.size k hk32
      have hzu : (zeroValue 5).run Try.prog W1 = .ok (.int .u8 0) W1 := by kernel_rfl
      have h31 : 32 - k = (31 - k) + 1 := by omega
      have hcs := cut_splice k D hD hk32
      have HCS : Hid (splice (bcells D) k (List.replicate (31 - k + 1) (.int .u8 0)) = bcells (cutD k D)) := hcs
      have hsl' : ∀ W, (Instr.sliceAt 57 (.pointer (some ⟨w.heap.size, 0, none⟩)) (some (.int .i64 (k : Int))) none none).run Try.prog W = .ok (.slice (some ⟨w.heap.size, k, none⟩) (31 - k + 1) (31 - k + 1)) W := by intro W; rw [← h31]; exact hsl W
      have hfit : k + (31 - k + 1) ≤ (bcells D).length := by omega
      obtain ⟨n31, hn31⟩ : ∃ n, n = 31 - k := ⟨_, rfl⟩
      rw [← hn31] at hfit HCS
      simp only [← hn31] at hsl'
      clear hsl h31 hcs hn31
      have hcl := run_clear (P := Try.prog) (w := W1) 96 0 5 Try.underlying96 (.int .u8 0) hzu rfl rfl w.heap.size k n31 (n31 + 1) (bcells D) 57 rd hfit
      rw [HCS.out, ← HR.out] at hcl
      have f2 := setRow_fr W1 w.heap.size R
      have r2 := setRow_heap W1 w.heap.size _ R _ _ rd
      generalize W1.setRow w.heap.size R = W2 at *
      have s2 : Same w W2 := Fr.trans s1 f2 (fun i hi e => by omega)
      have rz2 : W2.heap[w.heap.size + 1]? = some (.cells Z 57 (0, 0)) := by rw [f2.block _ (lt_of_heap rz) (by omega)]; exact rz
      clear f2 rz rd s1
      go_wp2_with (first | (refine wpList_load_row (by rfl) 57 _ (by rfl) w.heap.size (by rfl) 57 R (0, 0) _ r2 Try.underlying57 rfl hRsz ?_) | (refine wpList_store_whole (by rfl) 57 _ _ (by rfl) (w.heap.size + 1) R Z 57 (by rfl) (by rfl) rz2 (by rw [hRs, hZ]) hRsz hRone ?_; intro W5 r5 f5))
      exact bodyPost_ret (HRES.out _ _ r5 rfl) rfl ⟨rfl, Fr.trans s2 f5 (fun i hi e => by omega)⟩
  · rw [decide_eq_false h1] at HM
    obtain ⟨e1, e2⟩ := hCR.out.2 h1
    rw [e2]
    rw [e1] at HR
    have hzv : ∀ W, (zeroValue 57).run Try.prog W = .ok (.agg R) W := by rw [HR.out]; exact fun W => by kernel_rfl
    clear e1 e2 hCR
    go_enter Try.func77, Try.ntmps77
    go_wp2_with fail
    refine (HM.out _).mono ?_
    rintro e W1 ⟨rfl, hW1⟩
    obtain ⟨Z, rz, hZ⟩ : ∃ Z : Array Value, W1.heap[w.heap.size + 1]? = some (.cells Z 57 (0, 0)) ∧ Z.size = 32 := by rw [hW1]; exact ⟨_, heap_alloc2_new w _ _, hRs⟩
    have s1 : Same w W1 := by rw [hW1]; exact ((Fr.refl _ w).alloc _).alloc _
    clear hW1 hDAr
    go_wp2_with (first | (refine wpList_store_whole (by rfl) 57 _ _ (by rfl) (w.heap.size + 1) R Z 57 (by rfl) (by rfl) rz (by rw [hRs, hZ]) hRsz hRone ?_; intro W5 r5 f5))
    exact bodyPost_ret (HRES.out _ _ r5 rfl) rfl ⟨rfl, Fr.trans s1 f5 (fun i hi e => by omega)⟩

theorem cutR_length (wd : Int) (D : List UInt8) (h : D.length = 32) : (cutR wd D).length = 32 := by
  unfold cutR
  by_cases h1 : 1 ≤ wd ∧ wd ≤ 32
  · rw [if_pos h1]; exact cutD_length _ _ h
  · rw [if_neg h1]; simp

theorem Try.plain8 : Try.prog.plainKey 5 = true := by kernel_rfl
theorem Try.und8 : Try.prog.underlying 5 = some (.int .u8) := by kernel_rfl
theorem Try.cells8 : Try.prog.cellsOf 5 = 1 := by kernel_rfl
theorem Try.aund32 : Try.prog.underlying 57 = some (.array 32 5) := by kernel_rfl
theorem eqItems_gen (W : World) (d : Nat) (D E : List UInt8) (is : List Nat) (hD : ∀ i ∈ is, i < D.length) (hE : ∀ i ∈ is, i < E.length) : (Op.eqItems (d + 1) 5 1 (bcells D).toArray (bcells E).toArray is).run Try.prog W = .ok (is.all fun i => D.getD i 0 == E.getD i 0) W := by
  induction is with
  | nil => simp [Op.eqItems]
  | cons i is ih =>
    have hd := hD i (by simp)
    have he := hE i (by simp)
    have h1 : (part 5 (bcells D).toArray (i * 1)).run Try.prog W = .ok (.int .u8 ((D.getD i 0).toNat : Int)) W := run_part_plain W Try.plain8 (by rw [Nat.mul_one]; simp [bcells, hd])
    have h1' : (part 5 (bcells E).toArray (i * 1)).run Try.prog W = .ok (.int .u8 ((E.getD i 0).toNat : Int)) W := run_part_plain W Try.plain8 (by rw [Nat.mul_one]; simp [bcells, he])
    have h2 := run_equalIn_int W d 5 .u8 .u8 ((D.getD i 0).toNat : Int) ((E.getD i 0).toNat : Int) Try.und8
    have hih := ih (fun j hj => hD j (by simp [hj])) (fun j hj => hE j (by simp [hj]))
    simp only [Op.eqItems, Sem.run_bind, h1, h1', h2, Result.andThen_ok]
    rw [List.all_cons]
    generalize D.getD i 0 = x at *
    generalize E.getD i 0 = y at *
    by_cases h : x = y
    · subst h
      simp [hih]
    · have h' : ¬ (x.toNat : Int) = (y.toNat : Int) := by
        intro e
        apply h
        apply UInt8.toNat_inj.1
        omega
      have h3 : (x == y) = false := by simpa using h
      have h4 : ((x.toNat : Int) == (y.toNat : Int)) = false := by simpa using h'
      simp [h3, h4]
set_option maxRecDepth 100000 in
theorem eq_digest (W : World) (D E : List UInt8) (hD : D.length = 32) (hE : E.length = 32) : (Op.equalIn 10000 57 (.agg (bcells D).toArray) (.agg (bcells E).toArray)).run Try.prog W = .ok (decide (D = E)) W := by
  obtain ⟨i8, hi8⟩ := info_of_underlying Try.und8
  have h1 := run_equalIn_array (w := W) 9999 (bcells D).toArray (bcells E).toArray Try.aund32 hi8
  rw [Try.cells8] at h1
  have h2 := eqItems_gen W 9998 D E (List.range 32) (fun i hi => by rw [hD]; exact List.mem_range.1 hi) (fun i hi => by rw [hE]; exact List.mem_range.1 hi)
  rw [h1, h2]
  congr 1
  rw [Bool.eq_iff_iff, List.all_eq_true, decide_eq_true_eq]
  constructor
  · intro h
    apply List.ext_getElem (by omega)
    intro i hi1 hi2
    have := h i (List.mem_range.2 (by omega))
    simpa [hi1, hi2] using this
  · rintro rfl i _
    simp
theorem wpList_load_want {P : Program} {ops : Array Oper} {rest : List Oper} {o : Oper} {a : Act} {w : World} {Q : Exit → Act → World → Prop} (hw : Region.wanted o (yielded ops a.tmps) = true) (ty : TypeId) (x : Operand) (ho : o.op = .load ty x)
    (g : Nat) (hx : a.eval x = .pointer (some ⟨g, 0, none⟩)) (t : TypeId) (cs : Array Value) (fr : Nat × Nat) (d : TypeDesc) (hg : w.heap[g]? = some (.cells cs t fr))
    (hu : P.underlying ty = some d) (hd : (match d with | .struct _ | .array _ _ => true | _ => false) = true) (hi : (P.info? ty).map (·.size) = some cs.size)
    (h : wpList P ops Q rest (a.put o.dst (.agg cs)) w) : wpList P ops Q (o :: rest) a w :=
  BigFrame.wpList_want hw fun _ hK => wp_load_row ty x ho g hx t cs fr d hg hu hd hi (hK _ _ h)

def fitsP (wd : Int) (D : List UInt8) : Bool := decide (1 ≤ wd ∧ wd ≤ 32) && decide (cutR wd D = D)

set_option maxRecDepth 100000 in
set_option maxHeartbeats 1000000 in
theorem fits_calls (w : World) (wd : Int) (D : List UInt8) (hD : D.length = 32) : Calls Try.prog 67 #[.int .i64 wd, .agg (bcells D).toArray] w fun e w' => e = .returned (.bool (fitsP wd D)) ∧ Same w w' := by
  have HC : Hid (∀ W, Calls Try.prog 77 #[.int .i64 wd, .agg (bcells D).toArray] W fun e w' => e = .returned (.tuple #[.agg (bcells (cutR wd D)).toArray, .int .i64 (cutE wd)]) ∧ Same W w') := fun W => cut_calls W wd D hD
  have l1 := cutR_length wd D hD
  have hEq := fun W => eq_digest W (cutR wd D) D l1 hD
  have hXs : (bcells (cutR wd D)).toArray.size = 32 := by simp [bcells, l1]
  have hXone := bcells_one (cutR wd D)
  have hP : fitsP wd D = (decide (1 ≤ wd ∧ wd ≤ 32) && decide (cutR wd D = D)) := rfl
  have hce : cutE wd = if 1 ≤ wd ∧ wd ≤ 32 then 0 else 2 := rfl
  have hDs : (bcells D).toArray.size = 32 := by simp [bcells, hD]
  have hDone := bcells_one D
  generalize decide (cutR wd D = D) = bb at *
  generalize (bcells (cutR wd D)).toArray = X at *
  generalize (bcells D).toArray = Y at *
  have hXsz : (Try.prog.info? 57).map (·.size) = some X.size := by rw [Try.ainfoD, hXs]
  have hYsz : (Try.prog.info? 57).map (·.size) = some Y.size := by rw [Try.ainfoD, hDs]
  clear l1
  by_cases h1 : 1 ≤ wd ∧ wd ≤ 32
  · rw [decide_eq_true h1, Bool.true_and] at hP
    rw [if_pos h1] at hce
    rw [hce] at HC
    rw [hP]
    clear hP hce
    go_enter Try.func67, Try.ntmps67
    go_wp2_with (first | (refine wpList_load_row (by rfl) 57 _ (by rfl) w.heap.size (by rfl) 57 Y (0, 0) _ (heap_alloc_new w _) Try.underlying57 rfl hYsz ?_))
    have s0 : Same w (w.alloc (.cells Y 57)) := (Fr.refl _ w).alloc _
    have r0 : (w.alloc (.cells Y 57)).heap[w.heap.size]? = some (.cells Y 57 (0, 0)) := heap_alloc_new w _
    generalize w.alloc (.cells Y 57) = W0 at *
    refine (HC.out _).mono ?_
    rintro e W1 ⟨rfl, s1⟩
    have r1 : W1.heap[w.heap.size]? = some (.cells Y 57 (0, 0)) := by rw [s1.block _ (lt_of_heap r0) (fun f => f)]; exact r0
    clear r0
    go_wp2_with (first | (refine wpList_store_whole (by rfl) 57 _ _ (by rfl) W1.heap.size X _ 57 (by rfl) (by rfl) (heap_alloc_new W1 _) (by rw [hXs]; rfl) hXsz hXone ?_; intro W2 r2 f2; have s2 : Same W1 W2 := Fr.trans ((Fr.refl _ W1).alloc _) f2 (fun i hi e => by omega); clear f2) | (refine wpList_load_want (by rfl) 57 _ (by rfl) W1.heap.size (by rfl) 57 X (0, 0) _ r2 Try.underlying57 rfl hXsz ?_) | (refine wpList_load_want (by rfl) 57 _ (by rfl) w.heap.size (by rfl) 57 Y (0, 0) _ ((s2.block _ (lt_of_heap r1) (fun f => f)).trans r1) Try.underlying57 rfl hYsz ?_))
    go_ret
    exact ⟨rfl, s0.trans (s1.trans s2)⟩
  · rw [decide_eq_false h1, Bool.false_and] at hP
    rw [if_neg h1] at hce
    rw [hce] at HC
    rw [hP]
    clear hP hce
    go_enter Try.func67, Try.ntmps67
    go_wp2_with (first | (refine wpList_load_row (by rfl) 57 _ (by rfl) w.heap.size (by rfl) 57 Y (0, 0) _ (heap_alloc_new w _) Try.underlying57 rfl hYsz ?_))
    have s0 : Same w (w.alloc (.cells Y 57)) := (Fr.refl _ w).alloc _
    have r0 : (w.alloc (.cells Y 57)).heap[w.heap.size]? = some (.cells Y 57 (0, 0)) := heap_alloc_new w _
    generalize w.alloc (.cells Y 57) = W0 at *
    refine (HC.out _).mono ?_
    rintro e W1 ⟨rfl, s1⟩
    have r1 : W1.heap[w.heap.size]? = some (.cells Y 57 (0, 0)) := by rw [s1.block _ (lt_of_heap r0) (fun f => f)]; exact r0
    clear r0
    go_wp2_with (first | (refine wpList_store_whole (by rfl) 57 _ _ (by rfl) W1.heap.size X _ 57 (by rfl) (by rfl) (heap_alloc_new W1 _) (by rw [hXs]; rfl) hXsz hXone ?_; intro W2 r2 f2; have s2 : Same W1 W2 := Fr.trans ((Fr.refl _ W1).alloc _) f2 (fun i hi e => by omega); clear f2) | (refine wpList_load_want (by rfl) 57 _ (by rfl) W1.heap.size (by rfl) 57 X (0, 0) _ r2 Try.underlying57 rfl hXsz ?_) | (refine wpList_load_want (by rfl) 57 _ (by rfl) w.heap.size (by rfl) 57 Y (0, 0) _ ((s2.block _ (lt_of_heap r1) (fun f => f)).trans r1) Try.underlying57 rfl hYsz ?_))
    go_ret
    exact ⟨rfl, s0.trans (s1.trans s2)⟩




def longB (mv : Int) (x : ByteArray × ByteArray) : Bool := decide (mv < (x.2.size : Int))
def looseB (q : Int) (k : Kid) : Bool := !fitsP q k.d
set_option maxRecDepth 100000 in
set_option maxHeartbeats 1000000 in
theorem long_calls {p q : Int} (hp : p = 1024 ∨ p = 2048 ∨ p = 4096 ∨ p = 8192) (fb : Nat) (k v : ByteArray) (w : World) (h0 : w.cell? ⟨fb, 0, none⟩ = some (.int .i64 p)) (h1 : w.cell? ⟨fb, 1, none⟩ = some (.int .i64 q)) :
    Calls Try.prog 62 #[.agg #[.string k, .string v], .pointer (some ⟨fb, 0, none⟩)] w fun e w' => e = .returned (.bool (longB (p / 8) (k, v))) ∧ Same w w' := by
  have HM : Hid (∀ W, Calls Try.prog 28 #[frameV p q] W fun e w' => e = .returned (.int .i64 (p / 8)) ∧ Same W w') := MaxVal_calls hp
  unfold longB
  obtain ⟨mv, hmv⟩ : ∃ mv : Int, mv = p / 8 := ⟨_, rfl⟩
  rw [← hmv] at HM ⊢
  obtain ⟨V, hV⟩ : ∃ V, V = w.alloc (.cells #[.string k, .string v] 48) := ⟨_, rfl⟩
  have sx : Same w V := by rw [hV]; exact (Fr.refl _ w).alloc _
  have c0 := sx.keep h0
  have c1 := sx.keep h1
  have z0 : V.cell? ⟨w.heap.size, 0, none⟩ = some (.string k) := by rw [hV]; simp
  have z1 : V.cell? ⟨w.heap.size, 1, none⟩ = some (.string v) := by rw [hV]; simp
  clear hp hmv h0 h1
  go_enter Try.func62, Try.ntmps62
  go_wp2_with fail
  rw [← hV]
  clear hV
  have d0 : Same V V.drew := Fr.drew (Fr.refl _ V)
  go_region_held3 (fun W => W.cell? ⟨fb, 0, none⟩ = some (.int .i64 p) ∧ W.cell? ⟨fb, 1, none⟩ = some (.int .i64 q) ∧ W.cell? ⟨w.heap.size, 0, none⟩ = some (.string k) ∧ W.cell? ⟨w.heap.size, 1, none⟩ = some (.string v)) (first | exact ⟨t1.keep c0, t1.keep c1, t1.keep z0, t1.keep z1⟩ | exact ⟨c0, c1, z0, z1⟩)
    (first | (go_at_call 28; refine (HM.out _).mono ?_; rintro e W1 ⟨rfl, hs⟩; have t1 := Same.trans d0 hs; clear hs))
  go_wp2_with fail
  go_ret
  exact ⟨rfl, sx.trans t1⟩

theorem kid_sum {w : World} {b o : Nat} {k : Kid} (h : w.rangeAt b o (kcells k)) : w.rangeAt b (o + 1) (bcells k.d) := by
  intro j x hx
  have := h (j + 1) x (by rw [kcells, List.getElem?_cons_succ]; exact hx)
  rw [show o + 1 + j = o + (j + 1) from by omega]
  exact this
theorem kid_box (w : World) (k : Kid) : (w.alloc (.cells (kcells k).toArray 59)).rangeAt w.heap.size 0 (kcells k) := by
  intro j x hx
  rw [Nat.zero_add, cell_of_row _ _ _ _ _ _ (heap_alloc_new w _), List.getElem?_toArray]
  exact hx
theorem Try.infoDig : (Try.prog.info? 57).map (·.size) = some 32 := by kernel_rfl
set_option maxRecDepth 100000 in
set_option maxHeartbeats 1000000 in
theorem loose_calls {q : Int} (fb : Nat) (k : Kid) (hk : KidOk k) (w : World) (h1 : w.cell? ⟨fb, 1, none⟩ = some (.int .i64 q)) :
    Calls Try.prog 66 #[kidV k, .pointer (some ⟨fb, 0, none⟩)] w fun e w' => e = .returned (.bool (looseB q k)) ∧ Same w w' := by
  have HF : Hid (∀ W, Calls Try.prog 67 #[.int .i64 q, .agg (bcells k.d).toArray] W fun e w' => e = .returned (.bool (fitsP q k.d)) ∧ Same W w') := fun W => fits_calls W q k.d hk.d
  unfold looseB
  generalize fitsP q k.d = b at *
  have sx : Same w (w.alloc (.cells (kcells k).toArray 59)) := (Fr.refl _ w).alloc _
  have c1 := sx.keep h1
  have hS := kid_sum (kid_box w k)
  have hDl : (Try.prog.info? 57).map (·.size) = some (bcells k.d).length := by rw [Try.infoDig, bcells_length, hk.d]
  generalize bcells k.d = BD at *
  unfold kidV
  generalize (kcells k).toArray = KA at *
  clear h1
  go_enter Try.func66, Try.ntmps66
  go_wp2_with (refine wpList_load_mid (by rfl) 57 _ (by rfl) w.heap.size 1 (by rfl) BD _ hS Try.underlying57 rfl hDl ?_)
  refine (HF.out _).mono ?_
  rintro e W1 ⟨rfl, s1⟩
  go_wp2_with fail
  go_ret
  exact ⟨rfl, sx.trans s1⟩

/-- Where a node's three lists lie. -/
structure Nr where
  pa : Option Addr
  pb : Nat
  po : Nat
  cp : Nat
  sa : Option Addr
  sb : Nat
  so : Nat
  cs : Nat
  ka : Option Addr
  kb : Nat
  ko : Nat
  ck : Nat
structure NdAt (w : World) (r : Nr) (N : Nd) : Prop where
  hp : PRow w r.pa r.pb r.po N.ps
  hs : TRow w r.sa r.sb r.so N.ss
  hk : KRow w r.ka r.kb r.ko N.ks
  ok : ∀ x ∈ N.ks, KidOk x
  lp : N.ps.length ≤ 4611686018427387904
  ls : N.ss.length ≤ 4611686018427387904
  lk : N.ks.length ≤ 4611686018427387904
theorem NdAt.same {w w' : World} {r : Nr} {N : Nd} (h : NdAt w r N) (s : Same w w') : NdAt w' r N := ⟨h.hp.same s, h.hs.same s, h.hk.same s, h.ok, h.lp, h.ls, h.lk⟩
abbrev ndV (r : Nr) (N : Nd) : Value := nodeV r.pa N.ps.length r.cp r.sa N.ss.length r.cs r.ka N.ks.length r.ck
def leafP (p : Int) (N : Nd) : Bool := risesP (p / 16) ⟨#[]⟩ (N.ps.map (·.1)) && !(N.ps.any (longB (p / 8)))
def branchP (p q : Int) (N : Nd) : Bool := !(decide (0 < N.ps.length) || decide (N.ks.length < 2) || decide (N.ss.length + 1 ≠ N.ks.length)) && (risesP (p / 16) ⟨#[]⟩ N.ss && !(N.ks.any (looseB q)))
def shapeP (p q : Int) (N : Nd) : Bool := if leafB N = true then leafP p N else branchP p q N
def chkN (p q : Int) (N : Nd) : Int := if frameP p q = true then (if shapeP p q N = true then 0 else 70) else 2

set_option maxRecDepth 100000 in
set_option maxHeartbeats 1000000 in
theorem leafShaped_core {p q : Int} {pa sa ka : Option Addr} {np cp ns cs nk ck : Nat} {b1 b2 : Bool} (w : World)
    (HR : Hid (∀ W, Same w W → Calls Try.prog 63 #[frameV p q, .slice pa np cp, .func (.func 64) #[] #[]] W fun e w' => e = .returned (.bool b1) ∧ Same W w'))
    (HC : Hid (∀ W, Same w W → W.cell? ⟨w.heap.size, 0, none⟩ = some (.int .i64 p) → W.cell? ⟨w.heap.size, 1, none⟩ = some (.int .i64 q) → Calls Try.prog 65 #[.slice pa np cp, .func (.func 62) #[] #[.pointer (some ⟨w.heap.size, 0, none⟩)]] W fun e w' => e = .returned (.bool b2) ∧ Same W w')) :
    Calls Try.prog 42 #[frameV p q, nodeV pa np cp sa ns cs ka nk ck] w fun e w' => e = .returned (.bool (b1 && !b2)) ∧ Same w w' := by
  obtain ⟨V, hV⟩ : ∃ V, V = (w.alloc (.cells #[.int .i64 p, .int .i64 q] 23)).alloc (.cells #[.slice pa np cp, .slice sa ns cs, .slice ka nk ck] 28) := ⟨_, rfl⟩
  have sx : Same w V := by rw [hV]; exact ((Fr.refl _ w).alloc _).alloc _
  have c0 : V.cell? ⟨w.heap.size, 0, none⟩ = some (.int .i64 p) := by rw [hV]; simp
  have c1 : V.cell? ⟨w.heap.size, 1, none⟩ = some (.int .i64 q) := by rw [hV]; simp
  have n0 : V.cell? ⟨w.heap.size + 1, 0, none⟩ = some (.slice pa np cp) := by rw [hV]; simp
  cases b1
  all_goals
    go_enter Try.func42, Try.ntmps42
    go_wp2_with fail
    rw [← hV]
    refine (HR.out _ sx).mono ?_
    rintro e W1 ⟨rfl, s1⟩
    have t1 := sx.trans s1
    have c0 := s1.keep c0
    have c1 := s1.keep c1
    have n0 := s1.keep n0
    clear s1 hV
  · go_wp2_with fail
    go_ret
    exact ⟨rfl, t1⟩
  · go_wp2_with fail
    refine (HC.out _ t1 c0 c1).mono ?_
    rintro e W2 ⟨rfl, s2⟩
    go_wp2_with fail
    go_ret
    exact ⟨rfl, t1.trans s2⟩
theorem leafShaped_calls {p q : Int} (hp : p = 1024 ∨ p = 2048 ∨ p = 4096 ∨ p = 8192) {r : Nr} {N : Nd} (w : World) (h : NdAt w r N) :
    Calls Try.prog 42 #[frameV p q, ndV r N] w fun e w' => e = .returned (.bool (leafP p N)) ∧ Same w w' :=
  leafShaped_core w (fun W s => risesPairs_calls hp W (h.hp.same s) h.lp) (fun W s h0 h1 => contains_long (longB (p / 8)) W (h.hp.same s) h.lp (fun x V sv => long_calls hp w.heap.size x.1 x.2 V (sv.keep h0) (sv.keep h1)))

set_option maxRecDepth 100000 in
set_option maxHeartbeats 1000000 in
theorem branchShaped_core {p q : Int} {pa sa ka : Option Addr} {np cp ns cs nk ck : Nat} {b1 b2 : Bool} (w : World) (hnk : nk ≤ 4611686018427387904) (hns : ns ≤ 4611686018427387904)
    (HR : Hid (∀ W, Same w W → Calls Try.prog 68 #[frameV p q, .slice sa ns cs, .func (.func 69) #[] #[]] W fun e w' => e = .returned (.bool b1) ∧ Same W w'))
    (HC : Hid (∀ W, Same w W → W.cell? ⟨w.heap.size, 0, none⟩ = some (.int .i64 p) → W.cell? ⟨w.heap.size, 1, none⟩ = some (.int .i64 q) → Calls Try.prog 70 #[.slice ka nk ck, .func (.func 66) #[] #[.pointer (some ⟨w.heap.size, 0, none⟩)]] W fun e w' => e = .returned (.bool b2) ∧ Same W w')) :
    Calls Try.prog 43 #[frameV p q, nodeV pa np cp sa ns cs ka nk ck] w fun e w' => e = .returned (.bool (!(decide (0 < np) || decide (nk < 2) || decide (ns + 1 ≠ nk)) && (b1 && !b2))) ∧ Same w w' := by
  obtain ⟨V, hV⟩ : ∃ V, V = (w.alloc (.cells #[.int .i64 p, .int .i64 q] 23)).alloc (.cells #[.slice pa np cp, .slice sa ns cs, .slice ka nk ck] 28) := ⟨_, rfl⟩
  have sx : Same w V := by rw [hV]; exact ((Fr.refl _ w).alloc _).alloc _
  have c0 : V.cell? ⟨w.heap.size, 0, none⟩ = some (.int .i64 p) := by rw [hV]; simp
  have c1 : V.cell? ⟨w.heap.size, 1, none⟩ = some (.int .i64 q) := by rw [hV]; simp
  have n1 : V.cell? ⟨w.heap.size + 1, 1, none⟩ = some (.slice sa ns cs) := by rw [hV]; simp
  have n2 : V.cell? ⟨w.heap.size + 1, 2, none⟩ = some (.slice ka nk ck) := by rw [hV]; simp
  have hcase : (∃ m, np = m + 1) ∨ (np = 0 ∧ nk < 2) ∨ (np = 0 ∧ ¬ nk < 2 ∧ ns + 1 ≠ nk) ∨ (np = 0 ∧ ¬ nk < 2 ∧ ¬ ns + 1 ≠ nk) := by
    by_cases h0 : np = 0
    · right; omega
    · left; exact ⟨np - 1, by omega⟩
  rcases hcase with ⟨m, rfl⟩ | ⟨rfl, h2⟩ | ⟨rfl, h2, h3⟩ | ⟨rfl, h2, h3⟩
  · rw [decide_eq_true (show 0 < m + 1 by omega), Bool.true_or, Bool.true_or]
    have g1 : (0 : Int) < ((m + 1 : Nat) : Int) := by omega
    clear hnk hns
    go_enter Try.func43, Try.ntmps43
    go_wp2_with fail
    rw [← hV]
    go_ret
    exact ⟨rfl, sx⟩
  · rw [decide_eq_false (show ¬ 0 < 0 by omega), decide_eq_true h2, Bool.false_or, Bool.true_or]
    have g2 : decide ((nk : Int) < 2) = true := decide_eq_true (by omega)
    clear h2 hnk hns
    go_enter Try.func43, Try.ntmps43
    go_wp2_with fail
    rw [← hV]
    go_ret
    exact ⟨rfl, sx⟩
  · rw [decide_eq_false (show ¬ 0 < 0 by omega), decide_eq_false h2, decide_eq_true h3]
    have g2 : decide ((nk : Int) < 2) = false := decide_eq_false (by omega)
    have g3 : ((ns : Int) != (nk : Int) - 1) = true := by rw [bne_iff_ne]; omega
    have g4 : IntKind.i64.wrap ((nk : Int) - 1) = (nk : Int) - 1 := by rw [IntKind.wrap_i64]; omega
    clear h2 h3 hns
    go_enter Try.func43, Try.ntmps43
    go_wp2_with fail
    rw [← hV]
    go_ret
    exact ⟨rfl, sx⟩
  · rw [decide_eq_false (show ¬ 0 < 0 by omega), decide_eq_false h2, decide_eq_false h3]
    have g2 : decide ((nk : Int) < 2) = false := decide_eq_false (by omega)
    have g3 : ((ns : Int) != (nk : Int) - 1) = false := by rw [bne_eq_false_iff_eq]; omega
    have g4 : IntKind.i64.wrap ((nk : Int) - 1) = (nk : Int) - 1 := by rw [IntKind.wrap_i64]; omega
    clear h2 h3 hns
    cases b1
    all_goals
      go_enter Try.func43, Try.ntmps43
      go_wp2_with fail
      rw [← hV]
      refine (HR.out _ sx).mono ?_
      rintro e W1 ⟨rfl, s1⟩
      have t1 := sx.trans s1
      have c0 := s1.keep c0
      have c1 := s1.keep c1
      have n2 := s1.keep n2
      clear s1 hV
    · go_wp2_with fail
      go_ret
      exact ⟨rfl, t1⟩
    · go_wp2_with fail
      refine (HC.out _ t1 c0 c1).mono ?_
      rintro e W2 ⟨rfl, s2⟩
      go_wp2_with fail
      go_ret
      exact ⟨by simp, t1.trans s2⟩
theorem branchShaped_calls {p q : Int} (hp : p = 1024 ∨ p = 2048 ∨ p = 4096 ∨ p = 8192) {r : Nr} {N : Nd} (w : World) (h : NdAt w r N) :
    Calls Try.prog 43 #[frameV p q, ndV r N] w fun e w' => e = .returned (.bool (branchP p q N)) ∧ Same w w' :=
  branchShaped_core w h.lk h.ls (fun W s => risesTexts_calls hp W (h.hs.same s) h.ls) (fun W s _ h1 => contains_loose (looseB q) W (h.hk.same s) h.lk h.ok (fun x V hx sv => loose_calls w.heap.size x hx V (sv.keep h1)))

set_option maxRecDepth 100000 in
set_option maxHeartbeats 1000000 in
theorem check_core {p q : Int} {pa sa ka : Option Addr} {np cp ns cs nk ck : Nat} {bf bl b1 : Bool} (w : World)
    (HF : Hid (∀ W, Calls Try.prog 40 #[frameV p q] W fun e w' => e = .returned (.bool bf) ∧ Same W w'))
    (HI : Hid (∀ W, Calls Try.prog 41 #[nodeV pa np cp sa ns cs ka nk ck] W fun e w' => e = .returned (.bool bl) ∧ Same W w'))
    (HL : Hid (bf = true → bl = true → ∀ W, Same w W → Calls Try.prog 42 #[frameV p q, nodeV pa np cp sa ns cs ka nk ck] W fun e w' => e = .returned (.bool b1) ∧ Same W w'))
    (HB : Hid (bf = true → bl = false → ∀ W, Same w W → Calls Try.prog 43 #[frameV p q, nodeV pa np cp sa ns cs ka nk ck] W fun e w' => e = .returned (.bool b1) ∧ Same W w')) :
    Calls Try.prog 22 #[frameV p q, nodeV pa np cp sa ns cs ka nk ck] w fun e w' => e = .returned (.int .i64 (if bf = true then (if b1 = true then 0 else 70) else 2)) ∧ Same w w' := by
  obtain ⟨V, hV⟩ : ∃ V, V = (w.alloc (.cells #[.int .i64 p, .int .i64 q] 23)).alloc (.cells #[.slice pa np cp, .slice sa ns cs, .slice ka nk ck] 28) := ⟨_, rfl⟩
  have sx : Same w V := by rw [hV]; exact ((Fr.refl _ w).alloc _).alloc _
  have c0 : V.cell? ⟨w.heap.size, 0, none⟩ = some (.int .i64 p) := by rw [hV]; simp
  have c1 : V.cell? ⟨w.heap.size, 1, none⟩ = some (.int .i64 q) := by rw [hV]; simp
  have n0 : V.cell? ⟨w.heap.size + 1, 0, none⟩ = some (.slice pa np cp) := by rw [hV]; simp
  have n1 : V.cell? ⟨w.heap.size + 1, 1, none⟩ = some (.slice sa ns cs) := by rw [hV]; simp
  have n2 : V.cell? ⟨w.heap.size + 1, 2, none⟩ = some (.slice ka nk ck) := by rw [hV]; simp
  cases bf
  · go_enter Try.func22, Try.ntmps22
    go_wp2_with fail
    rw [← hV]
    refine (HF.out _).mono ?_
    rintro e W1 ⟨rfl, s1⟩
    go_wp2_with fail
    go_ret
    exact ⟨rfl, sx.trans s1⟩
  · cases bl
    · have HB2 : Hid (∀ W, Same w W → Calls Try.prog 43 #[frameV p q, nodeV pa np cp sa ns cs ka nk ck] W fun e w' => e = .returned (.bool b1) ∧ Same W w') := HB.out rfl rfl
      clear HL HB
      go_enter Try.func22, Try.ntmps22
      go_wp2_with fail
      rw [← hV]
      refine (HF.out _).mono ?_
      rintro e W1 ⟨rfl, s1⟩
      have t1 := sx.trans s1
      have c0 := s1.keep c0
      have c1 := s1.keep c1
      have n0 := s1.keep n0
      have n1 := s1.keep n1
      have n2 := s1.keep n2
      clear s1 hV
      go_wp2_with fail
      refine (HI.out _).mono ?_
      rintro e W2 ⟨rfl, s2⟩
      have t2 := t1.trans s2
      have c0 := s2.keep c0
      have c1 := s2.keep c1
      have n0 := s2.keep n0
      have n1 := s2.keep n1
      have n2 := s2.keep n2
      clear s2 t1
      go_wp2_with fail
      refine (HI.out _).mono ?_
      rintro e W3 ⟨rfl, s3⟩
      have t3 := t2.trans s3
      have c0 := s3.keep c0
      have c1 := s3.keep c1
      have n0 := s3.keep n0
      have n1 := s3.keep n1
      have n2 := s3.keep n2
      clear s3 t2
      go_wp2_with fail
      refine (HB2.out _ t3).mono ?_
      rintro e W4 ⟨rfl, s4⟩
      cases b1
      all_goals
        go_wp2_with fail
        go_ret
        exact ⟨rfl, t3.trans s4⟩
    · have HL2 : Hid (∀ W, Same w W → Calls Try.prog 42 #[frameV p q, nodeV pa np cp sa ns cs ka nk ck] W fun e w' => e = .returned (.bool b1) ∧ Same W w') := HL.out rfl rfl
      clear HL HB
      go_enter Try.func22, Try.ntmps22
      go_wp2_with fail
      rw [← hV]
      refine (HF.out _).mono ?_
      rintro e W1 ⟨rfl, s1⟩
      have t1 := sx.trans s1
      have c0 := s1.keep c0
      have c1 := s1.keep c1
      have n0 := s1.keep n0
      have n1 := s1.keep n1
      have n2 := s1.keep n2
      clear s1 hV
      go_wp2_with fail
      refine (HI.out _).mono ?_
      rintro e W2 ⟨rfl, s2⟩
      have t2 := t1.trans s2
      have c0 := s2.keep c0
      have c1 := s2.keep c1
      have n0 := s2.keep n0
      have n1 := s2.keep n1
      have n2 := s2.keep n2
      clear s2 t1
      go_wp2_with fail
      refine (HL2.out _ t2).mono ?_
      rintro e W3 ⟨rfl, s3⟩
      have t3 := t2.trans s3
      have n0 := s3.keep n0
      have n1 := s3.keep n1
      have n2 := s3.keep n2
      clear s3 t2
      cases b1
      · go_wp2_with fail
        refine (HI.out _).mono ?_
        rintro e W4 ⟨rfl, s4⟩
        go_wp2_with fail
        go_ret
        exact ⟨rfl, t3.trans s4⟩
      · go_wp2_with fail
        go_ret
        exact ⟨rfl, t3⟩
theorem isLeaf_calls {r : Nr} {N : Nd} (w : World) : Calls Try.prog 41 #[ndV r N] w fun e w' => e = .returned (.bool (leafB N)) ∧ Same w w' := isLeaf_core _ _ _ _ _ _ _ _ _ w
theorem check_calls (p q : Int) {r : Nr} {N : Nd} (w : World) (h : NdAt w r N) :
    Calls Try.prog 22 #[frameV p q, ndV r N] w fun e w' => e = .returned (.int .i64 (chkN p q N)) ∧ Same w w' := by
  have := check_core (bf := frameP p q) (bl := leafB N) (b1 := shapeP p q N) w (right_calls p q) (fun W => isLeaf_calls W) (fun hf hl W s => by
    have e : shapeP p q N = leafP p N := by unfold shapeP; rw [if_pos hl]
    rw [e]
    exact leafShaped_calls (frameP_cases hf).1 W (h.same s)) (fun hf hl W s => by
    have e : shapeP p q N = branchP p q N := by unfold shapeP; rw [hl]; rfl
    rw [e]
    exact branchShaped_calls (frameP_cases hf).1 W (h.same s))
  exact this

def zeroKid : Kid := ⟨0, List.replicate 32 0⟩
theorem chk_zero {p q : Int} {N : Nd} (h : chkN p q N = 0) : frameP p q = true ∧ shapeP p q N = true := by
  unfold chkN at h
  by_cases hf : frameP p q = true
  · rw [if_pos hf] at h
    by_cases hs : shapeP p q N = true
    · exact ⟨hf, hs⟩
    · rw [if_neg hs] at h; omega
  · rw [if_neg hf] at h; omega
def pcells (l : List (ByteArray × ByteArray)) : List Value := l.flatMap fun x => [.string x.1, .string x.2]
theorem Try.infPair : (Try.prog.info? 48).map (fun i => (i.zero, i.size, i.bytes)) = some (some (.agg #[.string ⟨#[]⟩, .string ⟨#[]⟩]), 2, 32) := by kernel_rfl
def scells (l : List ByteArray) : List Value := l.map fun s => Value.string s
theorem Try.infStr : (Try.prog.info? 9).map (fun i => (i.zero, i.size, i.bytes)) = some (some (.string ⟨#[]⟩), 1, 16) := by kernel_rfl

def kcellsL (l : List Kid) : List Value := l.flatMap kcells
theorem Try.infKid : (Try.prog.info? 59).map (fun i => (i.zero, i.size, i.bytes)) = some (some (kidV zeroKid), 33, 36) := by kernel_rfl
theorem own_cell {W : World} {e : TypeId} {sz g cap n : Nat} {xs : List Value} (h : W.ownsRow 0 e sz (.slice (some ⟨g, 0, none⟩) n cap) n xs) {j : Nat} {u : Value} (hu : xs[j]? = some u) : W.cell? ⟨g, j, none⟩ = some u := by
  obtain ⟨hl, hn | ⟨g2, c2, cur, hv, _, hh, _, _, _, htk⟩⟩ := h
  · exact absurd hn.1 (by simp)
  · injection hv with e1
    injection e1 with e1
    injection e1 with e1
    subst e1
    rw [cell_of_row _ _ _ _ _ _ hh]
    rw [← htk, List.getElem?_take] at hu
    split at hu
    · simpa using hu
    · cases hu
theorem own_some {W : World} {e : TypeId} {sz n cap : Nat} {xs : List Value} {ao : Option Addr} (h : W.ownsRow 0 e sz (.slice ao n cap) n xs) (hn : n ≠ 0) : ∃ g, ao = some ⟨g, 0, none⟩ ∧ g < W.heap.size := by
  obtain ⟨hl, h0 | ⟨g2, c2, cur, hv, _, hh, _⟩⟩ := h
  · exact absurd h0.2 hn
  · injection hv with e1 _ _
    exact ⟨g2, e1, lt_of_heap hh⟩
theorem own_cap {W : World} {e : TypeId} {sz n cap : Nat} {xs : List Value} {ao : Option Addr} (h : W.ownsRow 0 e sz (.slice ao n cap) n xs) : n ≤ cap ∧ (cap ≤ maxLen) := by
  obtain ⟨hl, h0 | ⟨g2, c2, cur, hv, _, hh, h1, h2, _⟩⟩ := h
  · obtain ⟨h1, h2⟩ := h0
    injection h1 with _ _ h3
    rw [h2, h3]; exact ⟨by omega, by unfold maxLen; omega⟩
  · injection hv with _ _ e3
    rw [e3]; exact ⟨h1, h2⟩
theorem flat_get {α : Type} (f : α → List Value) (sz : Nat) (l : List α) (h : ∀ x ∈ l, (f x).length = sz) (i j : Nat) (x : α) (hx : l[i]? = some x) (hj : j < sz) : (l.flatMap f)[i * sz + j]? = (f x)[j]? := by
  induction l generalizing i with
  | nil => simp at hx
  | cons y l ih =>
    have hy := h y (by simp)
    rw [List.flatMap_cons]
    cases i with
    | zero =>
      simp at hx; subst hx
      rw [Nat.zero_mul, Nat.zero_add, List.getElem?_append_left (by omega)]
    | succ i =>
      rw [List.getElem?_append_right (by rw [hy, Nat.succ_mul]; omega), hy, show (i + 1) * sz + j - sz = i * sz + j from by rw [Nat.succ_mul]; omega]
      exact ih (fun x hx => h x (by simp [hx])) i (by simpa using hx)
theorem own_prow {W : World} {n cap : Nat} {ps : List (ByteArray × ByteArray)} {ao : Option Addr} (h : W.ownsRow 0 48 2 (.slice ao n cap) n (pcells ps)) (hn : n = ps.length) : ∃ g, PRow W ao g 0 ps := by
  by_cases h0 : ps = []
  · subst h0
    exact ⟨0, fun e => absurd rfl e, fun j x hx => by simp at hx⟩
  · have hl : n ≠ 0 := by rw [hn]; intro e; exact h0 (List.eq_nil_of_length_eq_zero e)
    obtain ⟨g, rfl, hg⟩ := own_some h hl
    refine ⟨g, fun _ => ⟨rfl, hg⟩, fun j x hx => ?_⟩
    have f0 := flat_get (fun x : ByteArray × ByteArray => [Value.string x.1, Value.string x.2]) 2 ps (fun _ _ => rfl) j 0 x hx (by omega)
    have f1 := flat_get (fun x : ByteArray × ByteArray => [Value.string x.1, Value.string x.2]) 2 ps (fun _ _ => rfl) j 1 x hx (by omega)
    rw [Nat.zero_add]
    exact ⟨own_cell h (by rw [pcells, ← Nat.add_zero (j * 2), f0]; rfl), own_cell h (by rw [pcells, f1]; rfl)⟩
theorem own_trow {W : World} {n cap : Nat} {ss : List ByteArray} {ao : Option Addr} (h : W.ownsRow 0 9 1 (.slice ao n cap) n (scells ss)) (hn : n = ss.length) : ∃ g, TRow W ao g 0 ss := by
  by_cases h0 : ss = []
  · subst h0
    exact ⟨0, fun e => absurd rfl e, fun j x hx => by simp at hx⟩
  · have hl : n ≠ 0 := by rw [hn]; intro e; exact h0 (List.eq_nil_of_length_eq_zero e)
    obtain ⟨g, rfl, hg⟩ := own_some h hl
    refine ⟨g, fun _ => ⟨rfl, hg⟩, fun j x hx => ?_⟩
    rw [Nat.zero_add]
    exact own_cell h (by rw [scells, List.getElem?_map, hx]; rfl)
theorem own_krow {W : World} {n cap : Nat} {ks : List Kid} {ao : Option Addr} (hok : ∀ x ∈ ks, KidOk x) (h : W.ownsRow 0 59 33 (.slice ao n cap) n (kcellsL ks)) (hn : n = ks.length) : ∃ g, KRow W ao g 0 ks := by
  by_cases h0 : ks = []
  · subst h0
    exact ⟨0, fun e => absurd rfl e, fun j x hx => by simp at hx⟩
  · have hl : n ≠ 0 := by rw [hn]; intro e; exact h0 (List.eq_nil_of_length_eq_zero e)
    obtain ⟨g, rfl, hg⟩ := own_some h hl
    refine ⟨g, fun _ => ⟨rfl, hg⟩, fun j x hx i v hv => ?_⟩
    have hlx := kcells_length (hok x (List.mem_of_getElem? hx)).d
    have hi : i < 33 := by rw [← hlx]; exact (List.getElem?_eq_some_iff.1 hv).1
    have f0 := flat_get kcells 33 ks (fun y hy => kcells_length (hok y hy).d) j i x hx hi
    rw [Nat.zero_add]
    exact own_cell h (by rw [kcellsL, f0]; exact hv)

theorem step_store_whole {P : Program} {ops : Array Oper} {o : Oper} {a : Act} {w : World} {K : Act → World → Prop} {Q : Exit → Act → World → Prop} {E : Prop} (hgd : o.guard = none) (ty : TypeId) (x y : Operand) (ho : o.op = .store ty x y)
    (b : Nat) (cells old : Array Value) (t : TypeId) (hx : a.eval x = .pointer (some ⟨b, 0, none⟩)) (hy : a.eval y = .agg cells) (hb : w.heap[b]? = some (.cells old t (0, 0))) (hl : old.size = cells.size)
    (hi : (P.info? ty).map (·.size) = some cells.size) (h1 : cells.all (·.oneCell') = true)
    (h : ∀ w', w'.heap[b]? = some (.cells cells t (0, 0)) → Fr (fun k => k = b) w w' → K (a.put o.dst undef) w') : if Region.wanted o (yielded ops a.tmps) = true then Oper.wp P o a w K Q else E := by
  have hw : Region.wanted o (yielded ops a.tmps) = true := by simp [Region.wanted, hgd]
  rw [if_pos hw]
  have hth : w.there b 0 cells.size := there_row hb hl.symm
  refine wp_store_mid ty x y ho b 0 cells hx hy hth hi h1 (h _ ?_ (Fr.setCells (S := fun k => k = b) (fun _ => rfl) _ 0 w (Fr.refl _ w)))
  have := setCells_whole cells.toList old hb (by rw [hl, Array.length_toList]) (by rw [Array.length_toList]; exact hth)
  rwa [Array.toArray_toList] at this

theorem keepA' {W : World} {a : Addr} {v : Value} (h : W.cell? a = some v) (o : Obj) : (W.alloc o).cell? a = some v := (World.cell?_alloc_lt _ _ _ (World.block_lt_of_cell? W _ h)).trans h
theorem Try.nilSomePairs (W : World) (a : Addr) (n c : Nat) : (binOp .eql 24 (.slice (some a) n c) (.slice none 0 0)).run Try.prog W = .ok (.bool false) W := by kernel_rfl
theorem Try.nilNonePairs (W : World) (n c : Nat) : (binOp .eql 24 (.slice none n c) (.slice none 0 0)).run Try.prog W = .ok (.bool true) W := by kernel_rfl
theorem Try.nilSomeTexts (W : World) (a : Addr) (n c : Nat) : (binOp .eql 25 (.slice (some a) n c) (.slice none 0 0)).run Try.prog W = .ok (.bool false) W := by kernel_rfl
theorem Try.nilNoneTexts (W : World) (n c : Nat) : (binOp .eql 25 (.slice none n c) (.slice none 0 0)).run Try.prog W = .ok (.bool true) W := by kernel_rfl
theorem Try.nilSomeKids (W : World) (a : Addr) (n c : Nat) : (binOp .eql 26 (.slice (some a) n c) (.slice none 0 0)).run Try.prog W = .ok (.bool false) W := by kernel_rfl
theorem Try.nilNoneKids (W : World) (n c : Nat) : (binOp .eql 26 (.slice none n c) (.slice none 0 0)).run Try.prog W = .ok (.bool true) W := by kernel_rfl
theorem flat_length {α : Type} (f : α → List Value) (sz : Nat) (l : List α) (h : ∀ x ∈ l, (f x).length = sz) : (l.flatMap f).length = l.length * sz := by
  induction l with
  | nil => simp
  | cons x l ih =>
    have h1 := h x (by simp)
    have h2 := ih (fun y hy => h y (by simp [hy]))
    rw [List.flatMap_cons, List.length_append, List.length_cons, Nat.succ_mul]; omega
theorem flat_news {α : Type} (f : α → List Value) (sz : Nat) (hsz : 0 < sz) (l : List α) (h : ∀ x ∈ l, (f x).length = sz) {j : Nat} {u : Value} (hj : (l.flatMap f)[j]? = some u) : ∃ i k x, l[i]? = some x ∧ k < sz ∧ j = i * sz + k ∧ (f x)[k]? = some u := by
  have hlt := (List.getElem?_eq_some_iff.1 hj).1
  rw [flat_length f sz l h] at hlt
  have hi : j / sz < l.length := Nat.div_lt_of_lt_mul (by rw [Nat.mul_comm]; exact hlt)
  have hk := Nat.mod_lt j hsz
  have he : j = j / sz * sz + j % sz := by rw [Nat.mul_comm]; exact (Nat.div_add_mod j sz).symm
  refine ⟨j / sz, j % sz, l[j / sz], List.getElem?_eq_getElem hi, hk, he, ?_⟩
  rw [← flat_get f sz l h (j / sz) (j % sz) _ (List.getElem?_eq_getElem hi) hk, ← he]
  exact hj
theorem prow_news {w : World} {pa : Option Addr} {pb po : Nat} {ps : List (ByteArray × ByteArray)} (h : PRow w pa pb po ps) : ∀ j u, (pcells ps)[j]? = some u → w.cell? ⟨pb, po + j, none⟩ = some u := fun j u hj => by
  obtain ⟨i, k, x, hx, hk, rfl, hu⟩ := flat_news (fun x : ByteArray × ByteArray => [Value.string x.1, Value.string x.2]) 2 (by decide) ps (fun _ _ => rfl) hj
  obtain ⟨h0, h1⟩ := h.cells i x hx
  rcases k with _ | _ | k
  · rw [← hu]; simpa using h0
  · rw [← hu, show po + (i * 2 + (0 + 1)) = po + i * 2 + 1 from by omega]; simpa using h1
  · omega
theorem trow_news {w : World} {pa : Option Addr} {pb po : Nat} {ps : List ByteArray} (h : TRow w pa pb po ps) : ∀ j u, (scells ps)[j]? = some u → w.cell? ⟨pb, po + j, none⟩ = some u := fun j u hj => by
  unfold scells at hj
  rw [List.getElem?_map] at hj
  obtain ⟨x, hx, rfl⟩ := Option.map_eq_some_iff.1 hj
  exact h.cells j x hx
theorem krow_news {w : World} {pa : Option Addr} {pb po : Nat} {ps : List Kid} (hok : ∀ x ∈ ps, KidOk x) (h : KRow w pa pb po ps) : ∀ j u, (kcellsL ps)[j]? = some u → w.cell? ⟨pb, po + j, none⟩ = some u := fun j u hj => by
  obtain ⟨i, k, x, hx, hk, rfl, hu⟩ := flat_news kcells 33 (by decide) ps (fun x hx => kcells_length (hok x hx).d) hj
  have := h.cells i x hx k u hu
  rwa [show po + (i * 33 + k) = po + i * 33 + k from by omega]
theorem pcells_one (l : List (ByteArray × ByteArray)) : ∀ u ∈ pcells l, u.oneCell' = true := fun u hu => by
  obtain ⟨x, _, hx⟩ := List.mem_flatMap.1 hu
  rcases List.mem_cons.1 hx with rfl | hx
  · rfl
  · rcases List.mem_cons.1 hx with rfl | hx
    · rfl
    · cases hx
theorem scells_one (l : List ByteArray) : ∀ u ∈ scells l, u.oneCell' = true := fun u hu => by
  obtain ⟨x, _, rfl⟩ := List.mem_map.1 hu
  rfl
theorem kcellsL_one (l : List Kid) : ∀ u ∈ kcellsL l, u.oneCell' = true := fun u hu => by
  obtain ⟨x, _, hx⟩ := List.mem_flatMap.1 hu
  rcases List.mem_cons.1 hx with rfl | hx
  · rfl
  · obtain ⟨y, _, rfl⟩ := List.mem_map.1 hx
    rfl
set_option maxRecDepth 100000 in
set_option maxHeartbeats 1000000 in
theorem clonePairs_core {a : Addr} {n cp : Nat} {news : List Value} (w : World) (hl : news.length = n * 2) (hnews : ∀ j u, news[j]? = some u → w.cell? (a.add j) = some u) (h1 : ∀ u ∈ news, u.oneCell' = true) (hn : n ≤ 1048576) :
    Calls Try.prog 37 #[.slice (some a) n cp] w fun e w' => ∃ v, e = .returned v ∧ w'.ownsRow w.heap.size 48 2 v n news ∧ Same w w' := by
  have hnil := Try.nilSomePairs
  obtain ⟨i0, hi, hz0, hz1, hz2⟩ := info_parts Try.infPair
  have hown0 : (w.alloc (.cells #[] 48)).ownsRow w.heap.size 48 2 (.slice (some ⟨w.heap.size, 0, none⟩) 0 0) 0 [] := ⟨by simp, Or.inr ⟨w.heap.size, 0, #[], rfl, Nat.le_refl _, heap_alloc_new w _, Nat.le_refl _, by unfold maxLen; omega, by simp, by simp⟩⟩
  have HNW : Hid (∀ j u, news[j]? = some u → (w.alloc (.cells #[] 48)).cell? (a.add j) = some u) := fun j u hj => keepA' (hnews j u hj) _
  have h1' : Hid (∀ u ∈ news, u.oneCell' = true) := h1
  clear h1 hnews
  go_enter Try.func37, Try.ntmps37
  go_wp2_with (at_builtin; go_must (refine wpList_append_own _ (by rfl) _ _ _ (by rfl) w.heap.size 48 i0 (.agg #[.string ⟨#[]⟩, .string ⟨#[]⟩]) 2 32 Try.underlying24 hi hz0 hz1 hz2 rfl (by decide) _ 0 [] (by rfl) hown0 a n cp news (by rfl) hl HNW.out h1'.out (by unfold maxLen; omega) (by omega) (by simp) ?_))
  intro v1 w1 hown hgrow _
  have s1 : Same w w1 := Fr.grown ((Fr.refl _ w).alloc _) hgrow (fun k hk hlt => by simp [Value.ownBlock] at hk; omega)
  clear hgrow
  go_wp2_with fail
  go_ret
  exact ⟨_, rfl, hown, s1⟩
set_option maxRecDepth 100000 in
theorem clonePairs_nil {n cp : Nat} (w : World) :
    Calls Try.prog 37 #[.slice none n cp] w fun e w' => e = .returned (.slice none 0 0) ∧ Same w w' := by
  have hnil := Try.nilNonePairs
  go_enter Try.func37, Try.ntmps37
  go_wp2_with fail
  go_ret
  exact ⟨rfl, Fr.refl _ _⟩
set_option maxRecDepth 100000 in
set_option maxHeartbeats 1000000 in
theorem cloneTexts_core {a : Addr} {n cp : Nat} {news : List Value} (w : World) (hl : news.length = n * 1) (hnews : ∀ j u, news[j]? = some u → w.cell? (a.add j) = some u) (h1 : ∀ u ∈ news, u.oneCell' = true) (hn : n ≤ 1048576) :
    Calls Try.prog 38 #[.slice (some a) n cp] w fun e w' => ∃ v, e = .returned v ∧ w'.ownsRow w.heap.size 9 1 v n news ∧ Same w w' := by
  have hnil := Try.nilSomeTexts
  obtain ⟨i0, hi, hz0, hz1, hz2⟩ := info_parts Try.infStr
  have hown0 : (w.alloc (.cells #[] 9)).ownsRow w.heap.size 9 1 (.slice (some ⟨w.heap.size, 0, none⟩) 0 0) 0 [] := ⟨by simp, Or.inr ⟨w.heap.size, 0, #[], rfl, Nat.le_refl _, heap_alloc_new w _, Nat.le_refl _, by unfold maxLen; omega, by simp, by simp⟩⟩
  have HNW : Hid (∀ j u, news[j]? = some u → (w.alloc (.cells #[] 9)).cell? (a.add j) = some u) := fun j u hj => keepA' (hnews j u hj) _
  have h1' : Hid (∀ u ∈ news, u.oneCell' = true) := h1
  clear h1 hnews
  go_enter Try.func38, Try.ntmps38
  go_wp2_with (at_builtin; go_must (refine wpList_append_own _ (by rfl) _ _ _ (by rfl) w.heap.size 9 i0 (.string ⟨#[]⟩) 1 16 Try.underlying25 hi hz0 hz1 hz2 rfl (by decide) _ 0 [] (by rfl) hown0 a n cp news (by rfl) hl HNW.out h1'.out (by unfold maxLen; omega) (by omega) (by simp) ?_))
  intro v1 w1 hown hgrow _
  have s1 : Same w w1 := Fr.grown ((Fr.refl _ w).alloc _) hgrow (fun k hk hlt => by simp [Value.ownBlock] at hk; omega)
  clear hgrow
  go_wp2_with fail
  go_ret
  exact ⟨_, rfl, hown, s1⟩
set_option maxRecDepth 100000 in
theorem cloneTexts_nil {n cp : Nat} (w : World) :
    Calls Try.prog 38 #[.slice none n cp] w fun e w' => e = .returned (.slice none 0 0) ∧ Same w w' := by
  have hnil := Try.nilNoneTexts
  go_enter Try.func38, Try.ntmps38
  go_wp2_with fail
  go_ret
  exact ⟨rfl, Fr.refl _ _⟩
set_option maxRecDepth 100000 in
set_option maxHeartbeats 1000000 in
theorem cloneKids_core {a : Addr} {n cp : Nat} {news : List Value} (w : World) (hl : news.length = n * 33) (hnews : ∀ j u, news[j]? = some u → w.cell? (a.add j) = some u) (h1 : ∀ u ∈ news, u.oneCell' = true) (hn : n ≤ 1048576) :
    Calls Try.prog 39 #[.slice (some a) n cp] w fun e w' => ∃ v, e = .returned v ∧ w'.ownsRow w.heap.size 59 33 v n news ∧ Same w w' := by
  have hnil := Try.nilSomeKids
  obtain ⟨i0, hi, hz0, hz1, hz2⟩ := info_parts Try.infKid
  have hown0 : (w.alloc (.cells #[] 59)).ownsRow w.heap.size 59 33 (.slice (some ⟨w.heap.size, 0, none⟩) 0 0) 0 [] := ⟨by simp, Or.inr ⟨w.heap.size, 0, #[], rfl, Nat.le_refl _, heap_alloc_new w _, Nat.le_refl _, by unfold maxLen; omega, by simp, by simp⟩⟩
  have HNW : Hid (∀ j u, news[j]? = some u → (w.alloc (.cells #[] 59)).cell? (a.add j) = some u) := fun j u hj => keepA' (hnews j u hj) _
  have h1' : Hid (∀ u ∈ news, u.oneCell' = true) := h1
  clear h1 hnews
  go_enter Try.func39, Try.ntmps39
  go_wp2_with (at_builtin; go_must (refine wpList_append_own _ (by rfl) _ _ _ (by rfl) w.heap.size 59 i0 (kidV zeroKid) 33 36 Try.underlying26 hi hz0 hz1 hz2 rfl (by decide) _ 0 [] (by rfl) hown0 a n cp news (by rfl) hl HNW.out h1'.out (by unfold maxLen; omega) (by omega) (by simp) ?_))
  intro v1 w1 hown hgrow _
  have s1 : Same w w1 := Fr.grown ((Fr.refl _ w).alloc _) hgrow (fun k hk hlt => by simp [Value.ownBlock] at hk; omega)
  clear hgrow
  go_wp2_with fail
  go_ret
  exact ⟨_, rfl, hown, s1⟩
set_option maxRecDepth 100000 in
theorem cloneKids_nil {n cp : Nat} (w : World) :
    Calls Try.prog 39 #[.slice none n cp] w fun e w' => e = .returned (.slice none 0 0) ∧ Same w w' := by
  have hnil := Try.nilNoneKids
  go_enter Try.func39, Try.ntmps39
  go_wp2_with fail
  go_ret
  exact ⟨rfl, Fr.refl _ _⟩
theorem own_nil {w : World} {base : Nat} {e : TypeId} {sz : Nat} : w.ownsRow base e sz (.slice none 0 0) 0 [] := ⟨by simp, Or.inl ⟨rfl, rfl⟩⟩
theorem own_shape {w : World} {base : Nat} {e : TypeId} {sz n : Nat} {v : Value} {xs : List Value} (h : w.ownsRow base e sz v n xs) : ∃ ao c, v = .slice ao n c := by
  obtain ⟨_, ⟨rfl, rfl⟩ | ⟨g, c, _, rfl, _⟩⟩ := h
  · exact ⟨none, 0, rfl⟩
  · exact ⟨_, c, rfl⟩
/-- What Clone answers: a row of its own. -/
theorem clonePairs {pa : Option Addr} {pb po cp : Nat} {ps : List (ByteArray × ByteArray)} (w : World) (h : PRow w pa pb po ps) (hl : ps.length ≤ 1048576) :
    Calls Try.prog 37 #[.slice pa ps.length cp] w fun e w' => ∃ ao c, e = .returned (.slice ao ps.length c) ∧ w'.ownsRow w.heap.size 48 2 (.slice ao ps.length c) ps.length (pcells ps) ∧ Same w w' := by
  cases pa with
  | none =>
    have e : ps = [] := Classical.byContradiction fun e => by cases (h.place e).1
    subst e
    exact (clonePairs_nil w).mono fun e w' ⟨he, hs⟩ => ⟨_, _, he, own_nil, hs⟩
  | some a =>
    refine (clonePairs_core w (flat_length (fun x : ByteArray × ByteArray => [Value.string x.1, Value.string x.2]) 2 ps (fun _ _ => rfl)) (fun j u hj => ?_) (pcells_one ps) hl).mono fun e w' ⟨v, he, ho, hs⟩ => ?_
    · obtain ⟨e, _⟩ := h.place (by intro e; rw [e] at hj; simp at hj)
      cases e
      rw [WideShapes.add_plain]; exact prow_news h j u hj
    · obtain ⟨ao, c, rfl⟩ := own_shape ho
      exact ⟨ao, c, he, ho, hs⟩
theorem cloneTexts {pa : Option Addr} {pb po cp : Nat} {ps : List (ByteArray)} (w : World) (h : TRow w pa pb po ps) (hl : ps.length ≤ 1048576) :
    Calls Try.prog 38 #[.slice pa ps.length cp] w fun e w' => ∃ ao c, e = .returned (.slice ao ps.length c) ∧ w'.ownsRow w.heap.size 9 1 (.slice ao ps.length c) ps.length (scells ps) ∧ Same w w' := by
  cases pa with
  | none =>
    have e : ps = [] := Classical.byContradiction fun e => by cases (h.place e).1
    subst e
    exact (cloneTexts_nil w).mono fun e w' ⟨he, hs⟩ => ⟨_, _, he, own_nil, hs⟩
  | some a =>
    refine (cloneTexts_core w (by simp [scells]) (fun j u hj => ?_) (scells_one ps) hl).mono fun e w' ⟨v, he, ho, hs⟩ => ?_
    · obtain ⟨e, _⟩ := h.place (by intro e; rw [e] at hj; simp [scells] at hj)
      cases e
      rw [WideShapes.add_plain]; exact trow_news h j u hj
    · obtain ⟨ao, c, rfl⟩ := own_shape ho
      exact ⟨ao, c, he, ho, hs⟩
theorem cloneKids {pa : Option Addr} {pb po cp : Nat} {ps : List (Kid)} (w : World) (hok : ∀ x ∈ ps, KidOk x) (h : KRow w pa pb po ps) (hl : ps.length ≤ 1048576) :
    Calls Try.prog 39 #[.slice pa ps.length cp] w fun e w' => ∃ ao c, e = .returned (.slice ao ps.length c) ∧ w'.ownsRow w.heap.size 59 33 (.slice ao ps.length c) ps.length (kcellsL ps) ∧ Same w w' := by
  cases pa with
  | none =>
    have e : ps = [] := Classical.byContradiction fun e => by cases (h.place e).1
    subst e
    exact (cloneKids_nil w).mono fun e w' ⟨he, hs⟩ => ⟨_, _, he, own_nil, hs⟩
  | some a =>
    refine (cloneKids_core w (flat_length kcells 33 ps (fun x hx => kcells_length (hok x hx).d)) (fun j u hj => ?_) (kcellsL_one ps) hl).mono fun e w' ⟨v, he, ho, hs⟩ => ?_
    · obtain ⟨e, _⟩ := h.place (by intro e; rw [e] at hj; simp at hj)
      cases e
      rw [WideShapes.add_plain]; exact krow_news hok h j u hj
    · obtain ⟨ao, c, rfl⟩ := own_shape ho
      exact ⟨ao, c, he, ho, hs⟩

/-- A copy: rows of its own, each in another block, all made since. -/
structure Copied (w W : World) (r : Nr) (N : Nd) : Prop where
  op : W.ownsRow w.heap.size 48 2 (.slice r.pa N.ps.length r.cp) N.ps.length (pcells N.ps)
  os : W.ownsRow w.heap.size 9 1 (.slice r.sa N.ss.length r.cs) N.ss.length (scells N.ss)
  ok : W.ownsRow w.heap.size 59 33 (.slice r.ka N.ks.length r.ck) N.ks.length (kcellsL N.ks)
  pk : ∀ a b, r.pa = some a → r.ka = some b → a.block ≠ b.block
  sk : ∀ a b, r.sa = some a → r.ka = some b → a.block ≠ b.block
theorem own_base {w : World} {base b2 : Nat} {e : TypeId} {sz n : Nat} {v : Value} {xs : List Value} (h : w.ownsRow base e sz v n xs) (hb : b2 ≤ base) : w.ownsRow b2 e sz v n xs := by
  obtain ⟨h1, h2⟩ := h
  refine ⟨h1, ?_⟩
  rcases h2 with h2 | ⟨g, c, cur, hv, hg, r⟩
  · exact Or.inl h2
  · exact Or.inr ⟨g, c, cur, hv, by omega, r⟩
theorem own_frameB {w w' : World} {base : Nat} {e : TypeId} {sz n : Nat} {v : Value} {xs : List Value} {S : Nat → Prop} (h : w.ownsRow base e sz v n xs) (hf : Fr S w w') (hn : ∀ k, v.ownBlock = some k → ¬ S k) : w'.ownsRow base e sz v n xs := by
  obtain ⟨h1, h2⟩ := h
  refine ⟨h1, ?_⟩
  rcases h2 with h2 | ⟨g, c, cur, hv, hg, hh, r⟩
  · exact Or.inl h2
  · refine Or.inr ⟨g, c, cur, hv, hg, ?_, r⟩
    rw [hf.block g (lt_of_heap hh) (hn g (by rw [hv]; rfl))]; exact hh
theorem own_ge {w : World} {base : Nat} {e : TypeId} {sz n c : Nat} {a : Addr} {xs : List Value} (h : w.ownsRow base e sz (.slice (some a) n c) n xs) : base ≤ a.block ∧ a.block < w.heap.size := by
  obtain ⟨_, ⟨h2, _⟩ | ⟨g, c, cur, hv, hg, hh, _⟩⟩ := h
  · cases h2
  · injection hv with e1
    injection e1 with e1
    rw [e1]; exact ⟨hg, lt_of_heap hh⟩
theorem far_cell {W W5 : World} {a : Addr} {v : Value} {k : Nat} (hc : W.cell? a = some v) (f : Fr (fun i => i = k) W W5) (hb : a.block ≠ k := by simp) : W5.cell? a = some v := by
  rw [f.cell (World.block_lt_of_cell? W _ hc) hb]; exact hc
set_option maxRecDepth 100000 in
set_option maxHeartbeats 1000000 in
theorem copy_walk {r : Nr} {N : Nd} (w : World) (h : NdAt w r N) (h1 : N.ps.length ≤ 1048576) (h2 : N.ss.length ≤ 1048576) (h3 : N.ks.length ≤ 1048576) :
    Calls Try.prog 20 #[ndV r N] w fun e w' => ∃ r', e = .returned (ndV r' N) ∧ Copied w w' r' N ∧ Same w w' := by
  have HC0 : Hid (∀ W, Same w W → Calls Try.prog 37 #[.slice r.pa N.ps.length r.cp] W fun e w' => ∃ ao c, e = .returned (.slice ao N.ps.length c) ∧ w'.ownsRow W.heap.size 48 2 (.slice ao N.ps.length c) N.ps.length (pcells N.ps) ∧ Same W w') := fun W s => clonePairs W (h.same s).hp h1
  have HC1 : Hid (∀ W, Same w W → Calls Try.prog 38 #[.slice r.sa N.ss.length r.cs] W fun e w' => ∃ ao c, e = .returned (.slice ao N.ss.length c) ∧ w'.ownsRow W.heap.size 9 1 (.slice ao N.ss.length c) N.ss.length (scells N.ss) ∧ Same W w') := fun W s => cloneTexts W (h.same s).hs h2
  have HC2 : Hid (∀ W, Same w W → Calls Try.prog 39 #[.slice r.ka N.ks.length r.ck] W fun e w' => ∃ ao c, e = .returned (.slice ao N.ks.length c) ∧ w'.ownsRow W.heap.size 59 33 (.slice ao N.ks.length c) N.ks.length (kcellsL N.ks) ∧ Same W w') := fun W s => cloneKids W h.ok (h.same s).hk h3
  obtain ⟨V, hV⟩ : ∃ V, V = (w.alloc (.cells #[.slice r.pa N.ps.length r.cp, .slice r.sa N.ss.length r.cs, .slice r.ka N.ks.length r.ck] 28)).alloc (.cells #[.slice none 0 0, .slice none 0 0, .slice none 0 0] 28) := ⟨_, rfl⟩
  have t1 : Same w V := by rw [hV]; exact ((Fr.refl _ w).alloc _).alloc _
  have n0 : V.cell? ⟨w.heap.size, 0, none⟩ = some (.slice r.pa N.ps.length r.cp) := by rw [hV]; simp
  have n1 : V.cell? ⟨w.heap.size, 1, none⟩ = some (.slice r.sa N.ss.length r.cs) := by rw [hV]; simp
  have n2 : V.cell? ⟨w.heap.size, 2, none⟩ = some (.slice r.ka N.ks.length r.ck) := by rw [hV]; simp
  have r2 : V.heap[w.heap.size + 1]? = some (.cells #[.slice none 0 0, .slice none 0 0, .slice none 0 0] 28 (0, 0)) := by rw [hV]; exact heap_alloc2_new w _ _
  have HVS : Hid (w.heap.size + 2 ≤ V.heap.size) := by show _ ≤ _; rw [hV]; simp
  have HRES : Hid (∀ (tmps : Array Value) (W : World) (cs : Array Value), W.heap[w.heap.size + 1]? = some (.cells cs 28 (0, 0)) → cs.size = 3 → tmps.getD 2 undef = .pointer (some ⟨w.heap.size + 1, 0, none⟩) → (results Try.f20 tmps).run Try.prog W = .ok (.agg cs) W) := fun tmps W cs hh h2 hp => results_cell_row (p := 2) (ty := 28) (by kernel_rfl) tmps _ (w.heap.size + 1) 28 _ (0, 0) _ hp hh Try.underlying28 rfl (by rw [h2]; kernel_rfl)
  clear h h1 h2 h3
  go_enter Try.func20, Try.ntmps20
  go_wp2_with fail
  rw [← hV]
  clear hV
  have d0 : Same w V.drew := Fr.drew t1
  have HS : Hid (∀ W, Same V.drew W → W.cell? ⟨w.heap.size, 0, none⟩ = some (.slice r.pa N.ps.length r.cp) ∧ W.cell? ⟨w.heap.size, 1, none⟩ = some (.slice r.sa N.ss.length r.cs) ∧ W.cell? ⟨w.heap.size, 2, none⟩ = some (.slice r.ka N.ks.length r.ck)) := fun W h => ⟨Same.keep (w := V.drew) h n0, Same.keep (w := V.drew) h n1, Same.keep (w := V.drew) h n2⟩
  refine wp_region_held_drew (S := fun X => X.cell? ⟨w.heap.size, 0, none⟩ = some (.slice r.pa N.ps.length r.cp) ∧ X.cell? ⟨w.heap.size, 1, none⟩ = some (.slice r.sa N.ss.length r.cs) ∧ X.cell? ⟨w.heap.size, 2, none⟩ = some (.slice r.ka N.ks.length r.ck)) (by kernel_rfl) (HS.out _ (Fr.refl _ _)) (fun hHeld => ?_)
  refine wpAnyH_take (i := 0) (oi := { dst := some 3, op := Op.fieldAddr 28 (Operand.tmp 1) 0, type := 0, pos := "node.go:97", after := #[], guard := none }) (v := .pointer (some ⟨w.heap.size, 0, none⟩)) rfl (by kernel_rfl) (by kernel_rfl) (by kernel_rfl) (fun _ _ _ h => h) (Or.inl ⟨by rfl, fun w hSw => by (obtain ⟨z0, z1, z2⟩ := hSw; go_simp)⟩) (by assumption) ?_
  try simp only [Act.put, List.setIfInBounds_toArray, List.set_cons_zero, List.set_cons_succ]
  refine wpAnyH_take (i := 1) (oi := { dst := some 4, op := Op.load 24 (Operand.tmp 3), type := 24, pos := "node.go:97", after := #[{ on := 0, ground := Ground.data }], guard := none }) (v := .slice r.pa N.ps.length r.cp) rfl (by kernel_rfl) (by kernel_rfl) (by kernel_rfl) (fun _ _ _ h => h) (Or.inl ⟨by rfl, fun w hSw => by (obtain ⟨z0, z1, z2⟩ := hSw; go_simp)⟩) (by assumption) ?_
  try simp only [Act.put, List.setIfInBounds_toArray, List.set_cons_zero, List.set_cons_succ]
  refine wpAnyH_take (i := 3) (oi := { dst := some 6, op := Op.fieldAddr 28 (Operand.tmp 1) 1, type := 0, pos := "node.go:97", after := #[], guard := none }) (v := .pointer (some ⟨w.heap.size, 1, none⟩)) rfl (by kernel_rfl) (by kernel_rfl) (by kernel_rfl) (fun _ _ _ h => h) (Or.inl ⟨by rfl, fun w hSw => by (obtain ⟨z0, z1, z2⟩ := hSw; go_simp)⟩) (by assumption) ?_
  try simp only [Act.put, List.setIfInBounds_toArray, List.set_cons_zero, List.set_cons_succ]
  refine wpAnyH_take (i := 4) (oi := { dst := some 7, op := Op.load 25 (Operand.tmp 6), type := 25, pos := "node.go:97", after := #[{ on := 3, ground := Ground.data }], guard := none }) (v := .slice r.sa N.ss.length r.cs) rfl (by kernel_rfl) (by kernel_rfl) (by kernel_rfl) (fun _ _ _ h => h) (Or.inl ⟨by rfl, fun w hSw => by (obtain ⟨z0, z1, z2⟩ := hSw; go_simp)⟩) (by assumption) ?_
  try simp only [Act.put, List.setIfInBounds_toArray, List.set_cons_zero, List.set_cons_succ]
  refine wpAnyH_take (i := 6) (oi := { dst := some 9, op := Op.fieldAddr 28 (Operand.tmp 1) 2, type := 0, pos := "node.go:97", after := #[], guard := none }) (v := .pointer (some ⟨w.heap.size, 2, none⟩)) rfl (by kernel_rfl) (by kernel_rfl) (by kernel_rfl) (fun _ _ _ h => h) (Or.inl ⟨by rfl, fun w hSw => by (obtain ⟨z0, z1, z2⟩ := hSw; go_simp)⟩) (by assumption) ?_
  try simp only [Act.put, List.setIfInBounds_toArray, List.set_cons_zero, List.set_cons_succ]
  refine wpAnyH_take (i := 7) (oi := { dst := some 10, op := Op.load 26 (Operand.tmp 9), type := 26, pos := "node.go:97", after := #[{ on := 6, ground := Ground.data }], guard := none }) (v := .slice r.ka N.ks.length r.ck) rfl (by kernel_rfl) (by kernel_rfl) (by kernel_rfl) (fun _ _ _ h => h) (Or.inl ⟨by rfl, fun w hSw => by (obtain ⟨z0, z1, z2⟩ := hSw; go_simp)⟩) (by assumption) ?_
  try simp only [Act.put, List.setIfInBounds_toArray, List.set_cons_zero, List.set_cons_succ]
  refine wpAnyH_ready (rs := [2]) (by kernel_rfl) (by simp) ?_
  refine AllReadyH.cons (o := { dst := some 5, op := Op.call { callee := Callee.value (Operand.func 37), args := #[Operand.tmp 4], argTypes := #[24] }, type := 24, pos := "node.go:97", after := #[{ on := 1, ground := Ground.data }], guard := none }) rfl (fun K hK => ?_) AllReadyH.nil
  go_simp
  go_at_call 37
  refine (HC0.out _ d0).mono ?_
  rintro e W1 ⟨ao1, c1, rfl, own1, s1⟩
  try go_wp2_with fail
  have v1 := s1; have u1 := Same.trans d0 s1
  refine hK.out _ _ (HS.out _ v1) (fun hHeld => ?_)
  clear hK K
  try simp only [Act.put, List.setIfInBounds_toArray, List.set_cons_zero, List.set_cons_succ]
  refine wpAnyH_ready (rs := [5]) (by kernel_rfl) (by simp) ?_
  refine AllReadyH.cons (o := { dst := some 8, op := Op.call { callee := Callee.value (Operand.func 38), args := #[Operand.tmp 7], argTypes := #[25] }, type := 25, pos := "node.go:97", after := #[{ on := 4, ground := Ground.data }, { on := 2, ground := Ground.chain }], guard := none }) rfl (fun K hK => ?_) AllReadyH.nil
  go_simp
  go_at_call 38
  refine (HC1.out _ u1).mono ?_
  rintro e W2 ⟨ao2, c2, rfl, own2, s2⟩
  try go_wp2_with fail
  have v2 := Same.trans v1 s2; have u2 := Same.trans u1 s2
  refine hK.out _ _ (HS.out _ v2) (fun hHeld => ?_)
  clear hK K
  try simp only [Act.put, List.setIfInBounds_toArray, List.set_cons_zero, List.set_cons_succ]
  refine wpAnyH_ready (rs := [8]) (by kernel_rfl) (by simp) ?_
  refine AllReadyH.cons (o := { dst := some 11, op := Op.call { callee := Callee.value (Operand.func 39), args := #[Operand.tmp 10], argTypes := #[26] }, type := 26, pos := "node.go:97", after := #[{ on := 7, ground := Ground.data }, { on := 5, ground := Ground.chain }], guard := none }) rfl (fun K hK => ?_) AllReadyH.nil
  go_simp
  go_at_call 39
  refine (HC2.out _ u2).mono ?_
  rintro e W3 ⟨ao3, c3, rfl, own3, s3⟩
  try go_wp2_with fail
  have v3 := Same.trans v2 s3; have u3 := Same.trans u2 s3
  refine hK.out _ _ (HS.out _ v3) (fun hHeld => ?_)
  clear hK K
  try simp only [Act.put, List.setIfInBounds_toArray, List.set_cons_zero, List.set_cons_succ]
  refine wpAnyH_take (i := 9) (oi := { dst := some 12, op := Op.build 28 #[(0, Operand.tmp 5), (1, Operand.tmp 8), (2, Operand.tmp 11)], type := 28, pos := "node.go:97", after := #[{ on := 2, ground := Ground.data }, { on := 5, ground := Ground.data }, { on := 8, ground := Ground.data }], guard := none }) (v := .agg #[.slice ao1 N.ps.length c1, .slice ao2 N.ss.length c2, .slice ao3 N.ks.length c3]) rfl (by kernel_rfl) (by kernel_rfl) (by kernel_rfl) (fun _ _ _ h => h) (Or.inl ⟨by rfl, fun w hSw => by (obtain ⟨z0, z1, z2⟩ := hSw; go_simp)⟩) (by assumption) ?_
  try simp only [Act.put, List.setIfInBounds_toArray, List.set_cons_zero, List.set_cons_succ]
  have r4 := (Fr.block v3 (w.heap.size + 1) (lt_of_heap (w := V.drew) r2) (fun e => e)).trans r2
  refine wpAnyH_ready (rs := [10]) (by kernel_rfl) (by simp) ?_
  refine AllReadyH.cons (o := { dst := none, op := Op.store 28 (Operand.tmp 2) (Operand.tmp 12), type := 0, pos := "node.go:97", after := #[{ on := 9, ground := Ground.data }, { on := 8, ground := Ground.chain }, { on := 0, ground := Ground.phase }, { on := 1, ground := Ground.phase }, { on := 2, ground := Ground.phase }, { on := 3, ground := Ground.phase }, { on := 4, ground := Ground.phase }, { on := 5, ground := Ground.phase }, { on := 6, ground := Ground.phase }, { on := 7, ground := Ground.phase }, { on := 8, ground := Ground.phase }, { on := 9, ground := Ground.phase }], guard := none }) rfl (fun K hK => ?_) AllReadyH.nil
  refine step_store_whole rfl 28 _ _ rfl (w.heap.size + 1) #[.slice ao1 N.ps.length c1, .slice ao2 N.ss.length c2, .slice ao3 N.ks.length c3] #[.slice none 0 0, .slice none 0 0, .slice none 0 0] 28 (by rfl) (by rfl) r4 rfl (by kernel_rfl) (by kernel_rfl) ?_
  intro W5 r5 f5
  refine hK.out _ _ (by obtain ⟨y0, y1, y2⟩ := HS.out _ v3; exact ⟨far_cell y0 f5, far_cell y1 f5, far_cell y2 f5⟩) (fun hHeld => ?_)
  clear hK K
  refine wpAnyH_done (by kernel_rfl) ?_ _
  go_wp2_with fail
  refine bodyPost_ret (HRES.out _ _ _ r5 rfl rfl) rfl ⟨⟨ao1, 0, 0, c1, ao2, 0, 0, c2, ao3, 0, 0, c3⟩, rfl, ?_, Fr.trans u3 f5 (fun i hi e => by omega)⟩
  have z0 := HVS.out
  have z1 := Fr.size s1
  have z2 := Fr.size s2
  have z3 := Fr.size s3
  have zd : V.drew.heap.size = V.heap.size := rfl
  have o1 := own_frameB (own_frameB (own_frameB own1 s2 (fun _ _ f => f)) s3 (fun _ _ f => f)) f5 (fun k hk e => by
    cases ao1 with
    | none => cases hk
    | some a => have := own_ge own1; simp [Value.ownBlock] at hk; omega)
  have o2 := own_frameB (own_frameB own2 s3 (fun _ _ f => f)) f5 (fun k hk e => by
    cases ao2 with
    | none => cases hk
    | some a => have := own_ge own2; simp [Value.ownBlock] at hk; omega)
  have o3 := own_frameB own3 f5 (fun k hk e => by
    cases ao3 with
    | none => cases hk
    | some a => have := own_ge own3; simp [Value.ownBlock] at hk; omega)
  refine ⟨own_base o1 (by omega), own_base o2 (by omega), own_base o3 (by omega), fun a b ha hb => ?_, fun a b ha hb => ?_⟩
  · simp only at ha hb
    subst ha hb
    have := own_ge own1; have := own_ge own3; omega
  · simp only at ha hb
    subst ha hb
    have := own_ge own2; have := own_ge own3; omega


theorem NdAt.fr {W W' : World} {r : Nr} {N : Nd} {S : Nat → Prop} (h : NdAt W r N) (f : Fr S W W') (h1 : N.ps ≠ [] → ¬ S r.pb) (h2 : N.ss ≠ [] → ¬ S r.sb) (h3 : N.ks ≠ [] → ¬ S r.kb) : NdAt W' r N := by
  refine ⟨⟨fun e => ⟨(h.hp.place e).1, Nat.lt_of_lt_of_le (h.hp.place e).2 f.size⟩, fun j x hx => ?_⟩, ⟨fun e => ⟨(h.hs.place e).1, Nat.lt_of_lt_of_le (h.hs.place e).2 f.size⟩, fun j x hx => ?_⟩, ⟨fun e => ⟨(h.hk.place e).1, Nat.lt_of_lt_of_le (h.hk.place e).2 f.size⟩, fun j x hx i v hv => ?_⟩, h.ok, h.lp, h.ls, h.lk⟩
  · have hne : N.ps ≠ [] := by intro e; rw [e] at hx; simp at hx
    obtain ⟨c0, c1⟩ := h.hp.cells j x hx
    exact ⟨(f.cell (p := ⟨r.pb, _, none⟩) (h.hp.place hne).2 (h1 hne)).trans c0, (f.cell (p := ⟨r.pb, _, none⟩) (h.hp.place hne).2 (h1 hne)).trans c1⟩
  · have hne : N.ss ≠ [] := by intro e; rw [e] at hx; simp at hx
    exact (f.cell (p := ⟨r.sb, _, none⟩) (h.hs.place hne).2 (h2 hne)).trans (h.hs.cells j x hx)
  · have hne : N.ks ≠ [] := by intro e; rw [e] at hx; simp at hx
    exact (f.cell (p := ⟨r.kb, _, none⟩) (h.hk.place hne).2 (h3 hne)).trans (h.hk.cells j x hx i v hv)
theorem PRow.take {W : World} {pa : Option Addr} {pb po : Nat} {ps : List (ByteArray × ByteArray)} (h : PRow W pa pb po ps) (m : Nat) : PRow W pa pb po (ps.take m) := by
  refine ⟨fun e => h.place (by intro e2; rw [e2] at e; simp at e), fun j x hx => h.cells j x ?_⟩
  rw [List.getElem?_take] at hx
  split at hx
  · exact hx
  · cases hx
end Go.Proofs.Ytmgkdnejjemfeaa
