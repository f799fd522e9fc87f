/- Nodes in memory; Right, isLeaf, isEmpty, a frame's measures. -/
import Derived.Test.YtjlbkagkmcelgaaP0
import Derived.Test.YtjlbkagkmcelgaaProg
import Derived.Deep.LoopGhost
import Derived.Laws.Rows
import Derived.Deep.MidRow
namespace Go.Proofs.Ytjlbkagkmcelgaa
open Go.RowKit

/-- A frame that may be. -/
def frameP (p q : Int) : Bool := (p == 1024 || p == 2048 || p == 4096 || p == 8192) && decide (1 ≤ q) && decide (q ≤ 32)
theorem frameP_cases {p q : Int} (h : frameP p q = true) : (p = 1024 ∨ p = 2048 ∨ p = 4096 ∨ p = 8192) ∧ 1 ≤ q ∧ q ≤ 32 := by
  simp only [frameP, Bool.and_eq_true, Bool.or_eq_true, beq_iff_eq, decide_eq_true_eq] at h
  omega
abbrev frameV (p q : Int) : Value := .agg #[.int .i64 p, .int .i64 q]
/-- A kid: its page, its digest. -/
structure Kid where
  page : Nat
  d : List UInt8
structure KidOk (k : Kid) : Prop where
  page : k.page < 4294967296
  d : k.d.length = 32
def kcells (k : Kid) : List Value := .int .u32 k.page :: bcells k.d
theorem kcells_length {k : Kid} (h : k.d.length = 32) : (kcells k).length = 33 := by simp [kcells, bcells_length, h]
abbrev kidV (k : Kid) : Value := .agg (kcells k).toArray
/-- A node: its pairs, separators, kids. -/
structure Nd where
  ps : List (ByteArray × ByteArray)
  ss : List ByteArray
  ks : List Kid
/-- Pairs, texts, kids in a row: where it lies, and what it holds. -/
structure PRow (w : World) (pa : Option Addr) (pb po : Nat) (ps : List (ByteArray × ByteArray)) : Prop where
  place : ps ≠ [] → pa = some ⟨pb, po, none⟩ ∧ pb < w.heap.size
  cells : ∀ j x, ps[j]? = some x → w.cell? ⟨pb, po + j * 2, none⟩ = some (.string x.1) ∧ w.cell? ⟨pb, po + j * 2 + 1, none⟩ = some (.string x.2)
structure TRow (w : World) (pa : Option Addr) (pb po : Nat) (ss : List ByteArray) : Prop where
  place : ss ≠ [] → pa = some ⟨pb, po, none⟩ ∧ pb < w.heap.size
  cells : ∀ j x, ss[j]? = some x → w.cell? ⟨pb, po + j, none⟩ = some (.string x)
structure KRow (w : World) (pa : Option Addr) (pb po : Nat) (ks : List Kid) : Prop where
  place : ks ≠ [] → pa = some ⟨pb, po, none⟩ ∧ pb < w.heap.size
  cells : ∀ j x, ks[j]? = some x → w.rangeAt pb (po + j * 33) (kcells x)
theorem PRow.same {w w' : World} {pa : Option Addr} {pb po : Nat} {ps : List (ByteArray × ByteArray)} (h : PRow w pa pb po ps) (s : Same w w') : PRow w' pa pb po ps :=
  ⟨fun e => ⟨(h.place e).1, Nat.lt_of_lt_of_le (h.place e).2 s.size⟩, fun j x hx => ⟨s.keep (h.cells j x hx).1, s.keep (h.cells j x hx).2⟩⟩
theorem TRow.same {w w' : World} {pa : Option Addr} {pb po : Nat} {ps : List ByteArray} (h : TRow w pa pb po ps) (s : Same w w') : TRow w' pa pb po ps :=
  ⟨fun e => ⟨(h.place e).1, Nat.lt_of_lt_of_le (h.place e).2 s.size⟩, fun j x hx => s.keep (h.cells j x hx)⟩
theorem KRow.same {w w' : World} {pa : Option Addr} {pb po : Nat} {ps : List Kid} (h : KRow w pa pb po ps) (s : Same w w') : KRow w' pa pb po ps :=
  ⟨fun e => ⟨(h.place e).1, Nat.lt_of_lt_of_le (h.place e).2 s.size⟩, fun j x hx i v hv => s.keep (h.cells j x hx i v hv)⟩
/-- A node's value: three slices. -/
abbrev nodeV (pa : Option Addr) (np cp : Nat) (sa : Option Addr) (ns cs : Nat) (ka : Option Addr) (nk ck : Nat) : Value := .agg #[.slice pa np cp, .slice sa ns cs, .slice ka nk ck]

set_option maxRecDepth 100000 in
theorem right_calls (p q : Int) (w : World) : Calls Try.prog 35 #[frameV p q] w fun e w' => e = .returned (.bool (frameP p q)) ∧ Same w w' := by
  have sx : ∀ o : Obj, Same w (w.alloc o) := fun o => (Fr.refl _ w).alloc _
  by_cases hp : p = 1024 ∨ p = 2048 ∨ p = 4096 ∨ p = 8192
  · have e : frameP p q = (decide (1 ≤ q) && decide (q ≤ 32)) := by
      rcases hp with rfl | rfl | rfl | rfl <;> simp [frameP]
    rw [e]
    clear e
    by_cases h1 : 1 ≤ q
    · by_cases h2 : q ≤ 32
      · rw [decide_eq_true h1, decide_eq_true h2]
        rcases hp with rfl | rfl | rfl | rfl
        all_goals
          go_enter Try.func35, Try.ntmps35
          go_wp2
          go_ret
          exact ⟨rfl, sx _⟩
      · rw [decide_eq_true h1, decide_eq_false h2]
        rcases hp with rfl | rfl | rfl | rfl
        all_goals
          go_enter Try.func35, Try.ntmps35
          go_wp2
          go_ret
          exact ⟨rfl, sx _⟩
    · rw [decide_eq_false h1]
      rcases hp with rfl | rfl | rfl | rfl
      all_goals
        go_enter Try.func35, Try.ntmps35
        go_wp2
        go_ret
        exact ⟨rfl, sx _⟩
  · have h1 : (p == 1024) = false := by rw [beq_eq_false_iff_ne]; omega
    have h2 : (p == 2048) = false := by rw [beq_eq_false_iff_ne]; omega
    have h3 : (p == 4096) = false := by rw [beq_eq_false_iff_ne]; omega
    have h4 : (p == 8192) = false := by rw [beq_eq_false_iff_ne]; omega
    have e : frameP p q = false := by rw [frameP, h1, h2, h3, h4]; rfl
    rw [e]
    clear e hp
    go_enter Try.func35, Try.ntmps35
    go_wp2
    go_ret
    exact ⟨rfl, sx _⟩

set_option maxRecDepth 100000 in
theorem MaxKey_calls {p q : Int} (hp : p = 1024 ∨ p = 2048 ∨ p = 4096 ∨ p = 8192) (w : World) : Calls Try.prog 75 #[frameV p q] w fun e w' => e = .returned (.int .i64 (p / 16)) ∧ Same w w' := by
  have sx : ∀ o : Obj, Same w (w.alloc o) := fun o => (Fr.refl _ w).alloc _
  rcases hp with rfl | rfl | rfl | rfl
  all_goals
    go_enter Try.func75, Try.ntmps75
    go_wp2
    go_ret
    exact ⟨rfl, sx _⟩
set_option maxRecDepth 100000 in
theorem MaxVal_calls {p q : Int} (hp : p = 1024 ∨ p = 2048 ∨ p = 4096 ∨ p = 8192) (w : World) : Calls Try.prog 54 #[frameV p q] w fun e w' => e = .returned (.int .i64 (p / 8)) ∧ Same w w' := by
  have sx : ∀ o : Obj, Same w (w.alloc o) := fun o => (Fr.refl _ w).alloc _
  rcases hp with rfl | rfl | rfl | rfl
  all_goals
    go_enter Try.func54, Try.ntmps54
    go_wp2
    go_ret
    exact ⟨rfl, sx _⟩
set_option maxRecDepth 100000 in
theorem Room_calls {p q : Int} (hp : p = 1024 ∨ p = 2048 ∨ p = 4096 ∨ p = 8192) (w : World) : Calls Try.prog 29 #[frameV p q] w fun e w' => e = .returned (.int .i64 (p - 32)) ∧ Same w w' := by
  have sx : ∀ o : Obj, Same w (w.alloc o) := fun o => (Fr.refl _ w).alloc _
  rcases hp with rfl | rfl | rfl | rfl
  all_goals
    go_enter Try.func29, Try.ntmps29
    go_wp2
    go_ret
    exact ⟨rfl, sx _⟩

def leafB (N : Nd) : Bool := decide (N.ss.length = 0) && decide (N.ks.length = 0)
theorem lenz (n : Nat) : ((n : Int) == 0) = decide (n = 0) := by rw [Bool.eq_iff_iff, beq_iff_eq, decide_eq_true_eq]; omega
set_option maxRecDepth 100000 in
theorem isLeaf_core (pa sa ka : Option Addr) (np cp ns cs nk ck : Nat) (w : World) :
    Calls Try.prog 36 #[nodeV pa np cp sa ns cs ka nk ck] w fun e w' => e = .returned (.bool (decide (ns = 0) && decide (nk = 0))) ∧ Same w w' := by
  have sx : ∀ o : Obj, Same w (w.alloc o) := fun o => (Fr.refl _ w).alloc _
  have e1 := lenz ns
  have e2 := lenz nk
  obtain ⟨b1, h1⟩ : ∃ b, b = decide (ns = 0) := ⟨_, rfl⟩
  obtain ⟨b2, h2⟩ : ∃ b, b = decide (nk = 0) := ⟨_, rfl⟩
  rw [← h1] at e1 ⊢
  rw [← h2] at e2 ⊢
  clear h1 h2
  cases b1
  · go_enter Try.func36, Try.ntmps36
    go_wp2_with fail
    go_ret
    exact ⟨rfl, sx _⟩
  · go_enter Try.func36, Try.ntmps36
    go_wp2_with fail
    go_ret
    exact ⟨rfl, sx _⟩
end Go.Proofs.Ytjlbkagkmcelgaa
