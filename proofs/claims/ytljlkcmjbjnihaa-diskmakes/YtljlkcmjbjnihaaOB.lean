/- disk: what is known of a disk in memory; its small functions. -/
import Derived.Test.YtljlkcmjbjnihaaOA
import Derived.Test.YtljlkcmjbjnihaaYA
namespace Go.Proofs.Ytljlkcmjbjnihaa
open Go.RowKit

/-- What waits. -/
structure Wt where
  act : Nat
  pg : Nat
  pages : Nat
  data : ByteArray
def wtC (x : Wt) : List Value := [.int .u8 (x.act : Int), .int .u32 (x.pg : Int), .int .i64 (x.pages : Int), .string x.data]
def wtCs (l : List Wt) : List Value := l.flatMap wtC
theorem wtCs_len (l : List Wt) : (wtCs l).length = l.length * 4 := by
  induction l with
  | nil => rfl
  | cons x l ih => simp only [wtCs, List.flatMap_cons, List.length_append, List.length_cons] at ih ⊢; rw [ih]; simp [wtC]; omega
theorem wtCs_app (a b : List Wt) : wtCs (a ++ b) = wtCs a ++ wtCs b := by simp [wtCs]
theorem wtCs_at {l : List Wt} {i : Nat} {x : Wt} (h : l[i]? = some x) : ∀ k u, (wtC x)[k]? = some u → (wtCs l)[i * 4 + k]? = some u := by
  induction l generalizing i with
  | nil => cases h
  | cons y l ih =>
    intro k u hu
    have hk : k < 4 := by have := (List.getElem?_eq_some_iff.1 hu).1; simpa [wtC] using this
    cases i with
    | zero =>
      have e : y = x := by simpa using h
      subst e
      show (wtC y ++ wtCs l)[0 * 4 + k]? = _
      rw [List.getElem?_append_left (by simp [wtC]; omega), Nat.zero_mul, Nat.zero_add]; exact hu
    | succ i =>
      have := ih (i := i) (by simpa using h) k u hu
      show (wtC y ++ wtCs l)[(i + 1) * 4 + k]? = _
      rw [List.getElem?_append_right (by simp [wtC]; omega)]
      rw [show (i + 1) * 4 + k - (wtC y).length = i * 4 + k from by simp [wtC]; omega]
      exact this
theorem wtCs_one (l : List Wt) : ∀ u ∈ wtCs l, u.oneCell' = true := fun u hu => by
  obtain ⟨x, _, hx⟩ := List.mem_flatMap.1 hu
  simp only [wtC, List.mem_cons, List.not_mem_nil, or_false] at hx
  rcases hx with rfl | rfl | rfl | rfl <;> rfl
/-- A disk without arms: what is told of it. -/
structure Dk where
  page : Nat
  most : Nat
  off : Bool
  P : List ByteArray
  I : List ByteArray
  W : List Wt
  wr : Nat
  gr : Nat
  sy : Nat
  life : Nat
  taken : Nat
def dkC (D : Dk) (sp si sw sa : Value) : List Value := [.int .i64 (D.page : Int), sp, .int .i64 (D.page : Int), si, .int .i64 (D.most : Int), .bool D.off, sw, sa, .int .i64 (D.wr : Int), .int .i64 (D.gr : Int), .int .i64 (D.sy : Int), .int .i64 (D.life : Int), .int .i64 (D.taken : Int)]
/-- What lies within a disk's land, and what was made since. -/
def Land (S : Nat → Prop) (w w' : World) (k : Nat) : Prop := S k ∨ (w.heap.size ≤ k ∧ k < w'.heap.size)
/-- A disk in memory: at the block b, its rows in the land S. -/
structure DkAt (w : World) (b : Nat) (D : Dk) (S : Nat → Prop) : Prop where
  at_ : ∃ (pa ia wa aa : Option Addr) (pc ic wc ac : Nat), w.heap[b]? = some (.cells (dkC D (.slice pa D.P.length pc) (.slice ia D.I.length ic) (.slice wa D.W.length wc) (.slice aa 0 ac)).toArray 51 (0, 0)) ∧
    w.ownsRow 0 9 1 (.slice pa D.P.length pc) D.P.length (scells D.P) ∧ w.ownsRow 0 9 1 (.slice ia D.I.length ic) D.I.length (scells D.I) ∧ w.ownsRow 0 77 4 (.slice wa D.W.length wc) D.W.length (wtCs D.W) ∧
    (∀ k, (Value.slice pa D.P.length pc).ownBlock = some k → S k) ∧ (∀ k, (Value.slice ia D.I.length ic).ownBlock = some k → S k) ∧ (∀ k, (Value.slice wa D.W.length wc).ownBlock = some k → S k) ∧
    (∀ k, (Value.slice pa D.P.length pc).ownBlock = some k → (Value.slice ia D.I.length ic).ownBlock = some k → False)
  mem : S b
  lt : ∀ k, S k → k < w.heap.size
theorem heap_fr {S : Nat → Prop} {w w' : World} {b : Nat} {o : Obj} (h : w.heap[b]? = some o) (f : Fr S w w') (hn : ¬ S b) : w'.heap[b]? = some o := (f.block b (lt_of_heap h) hn).trans h
/-- What does not touch a disk's land leaves it as it was. -/
theorem DkAt.fr {w w' : World} {b : Nat} {D : Dk} {S T : Nat → Prop} (h : DkAt w b D S) (f : Fr T w w') (hd : ∀ k, S k → ¬ T k) : DkAt w' b D S := by
  obtain ⟨⟨pa, ia, wa, aa, pc, ic, wc, ac, h1, h2, h3, h4, h5, h6, h7, h8⟩, hm, hl⟩ := h
  exact ⟨⟨pa, ia, wa, aa, pc, ic, wc, ac, heap_fr h1 f (hd b hm), own_frameB h2 f (fun k hk => hd k (h5 k hk)), own_frameB h3 f (fun k hk => hd k (h6 k hk)), own_frameB h4 f (fun k hk => hd k (h7 k hk)), h5, h6, h7, h8⟩, hm, fun k hk => Nat.lt_of_lt_of_le (hl k hk) f.size⟩
theorem DkAt.same {w w' : World} {b : Nat} {D : Dk} {S : Nat → Prop} (h : DkAt w b D S) (s : Same w w') : DkAt w' b D S := h.fr s (fun _ _ f => f)
theorem DkAt.land {w : World} {b : Nat} {D : Dk} {S T : Nat → Prop} (h : DkAt w b D S) (hs : ∀ k, S k → T k) (hl : ∀ k, T k → k < w.heap.size) : DkAt w b D T := by
  obtain ⟨⟨pa, ia, wa, aa, pc, ic, wc, ac, h1, h2, h3, h4, h5, h6, h7, h8⟩, hm, _⟩ := h
  exact ⟨⟨pa, ia, wa, aa, pc, ic, wc, ac, h1, h2, h3, h4, fun k hk => hs k (h5 k hk), fun k hk => hs k (h6 k hk), fun k hk => hs k (h7 k hk), h8⟩, hs b hm, hl⟩
theorem trow_own {w : World} {pa : Option Addr} {pc : Nat} {l : List ByteArray} (h : w.ownsRow 0 9 1 (.slice pa l.length pc) l.length (scells l)) : ∃ pb, TRow w pa pb 0 l := by
  cases l with
  | nil => exact ⟨0, fun e => absurd rfl e, fun j x hx => by cases hx⟩
  | cons x l =>
    obtain ⟨g, rfl, hg⟩ := own_some h (by simp)
    refine ⟨g, fun _ => ⟨rfl, hg⟩, fun j y hy => ?_⟩
    rw [Nat.zero_add]
    exact own_cell h (by unfold scells; rw [List.getElem?_map, hy]; rfl)
set_option maxRecDepth 100000 in
theorem there_core {b : Nat} {pg : Int} (w : World) (c0 : w.cell? ⟨b, 0, none⟩ = some (.int .i64 pg)) (hp : 0 < pg) :
    Calls Try.prog 25 #[.pointer (some ⟨b, 0, none⟩)] w fun e w' => e = .returned (.bool true) ∧ w' = w := by
  go_enter Try.func25, Try.ntmps25
  go_wp2_with fail
  go_ret
  exact ⟨rfl, rfl⟩
set_option maxRecDepth 100000 in
theorem ready_core {b : Nat} {pg : Int} {off : Bool} (w : World) (c0 : w.cell? ⟨b, 0, none⟩ = some (.int .i64 pg)) (c5 : w.cell? ⟨b, 5, none⟩ = some (.bool off)) (hp : 0 < pg) :
    Calls Try.prog 37 #[.pointer (some ⟨b, 0, none⟩)] w fun e w' => e = .returned (.int .i64 (if off then 7 else 0)) ∧ w' = w := by
  have hT := there_core w c0 hp
  cases off with
  | true =>
    go_enter Try.func37, Try.ntmps37
    go_wp2_with fail
    refine hT.mono ?_
    rintro e w' ⟨rfl, hw⟩
    rw [hw]
    go_wp2_with fail
    go_ret
    exact ⟨rfl, rfl⟩
  | false =>
    go_enter Try.func37, Try.ntmps37
    go_wp2_with fail
    refine hT.mono ?_
    rintro e w' ⟨rfl, hw⟩
    rw [hw]
    go_wp2_with fail
    go_ret
    exact ⟨rfl, rfl⟩
set_option maxRecDepth 100000 in
theorem size_core {b o n c : Nat} {pa : Option Addr} (w : World) (c0 : w.cell? ⟨b, o + 1, none⟩ = some (.slice pa n c)) :
    Calls Try.prog 36 #[.pointer (some ⟨b, o, none⟩)] w fun e w' => e = .returned (.int .i64 (n : Int)) ∧ w' = w := by
  go_enter Try.func36, Try.ntmps36
  go_wp2_with fail
  go_ret
  exact ⟨rfl, rfl⟩
set_option maxRecDepth 100000 in
theorem has_core {b o n c no : Nat} {pa : Option Addr} (w : World) (c0 : w.cell? ⟨b, o + 1, none⟩ = some (.slice pa n c)) (hn : n ≤ 1048576) (hno : no < 4294967296) :
    Calls Try.prog 39 #[.pointer (some ⟨b, o, none⟩), .int .u32 (no : Int)] w fun e w' => e = .returned (.bool (decide (no < n))) ∧ w' = w := by
  have hT := size_core w c0
  have e1 : IntKind.u64.wrap (no : Int) = (no : Int) := by simp [IntKind.wrap, IntKind.bits, IntKind.signed]; omega
  have e2 : IntKind.u64.wrap (n : Int) = (n : Int) := by simp [IntKind.wrap, IntKind.bits, IntKind.signed]; omega
  have e3 : decide (no < n) = decide ((no : Int) < (n : Int)) := by simp
  rw [e3]
  clear e3
  go_enter Try.func39, Try.ntmps39
  go_wp2_with fail
  refine hT.mono ?_
  rintro e w' ⟨rfl, hw⟩
  rw [hw]
  go_wp2_with fail
  go_ret
  exact ⟨by simp, rfl⟩
set_option maxRecDepth 100000 in
theorem read_core {b o n c no g : Nat} {s : ByteArray} (w : World) (c0 : w.cell? ⟨b, o + 1, none⟩ = some (.slice (some ⟨g, 0, none⟩) n c)) (c1 : w.cell? ⟨g, no, none⟩ = some (.string s)) (hn : no < n) :
    Calls Try.prog 44 #[.pointer (some ⟨b, o, none⟩), .int .u32 (no : Int)] w fun e w' => e = .returned (.string s) ∧ w' = w := by
  have h1 : (no : Int) < (n : Int) := by omega
  go_enter Try.func44, Try.ntmps44
  go_wp2_with fail
  go_ret
  exact ⟨rfl, rfl⟩
/-- A store of one plain cell into a disk. -/
theorem DkAt.setS {w : World} {b : Nat} {D D' : Dk} {S : Nat → Prop} (h : DkAt w b D S) (i : Nat) (v : Value) (hP : D'.P = D.P) (hI : D'.I = D.I) (hW : D'.W = D.W) (hC : ∀ sp si sw sa, (dkC D sp si sw sa).set i v = dkC D' sp si sw sa) :
    DkAt (w.setCell ⟨b, i, none⟩ v) b D' S ∧ Fr S w (w.setCell ⟨b, i, none⟩ v) := by
  obtain ⟨⟨pa, ia, wa, aa, pc, ic, wc, ac, h1, h2, h3, h4, h5, h6, h7, h8⟩, hm, hl⟩ := h
  have f : Fr (fun k => k = b) w (w.setCell ⟨b, i, none⟩ v) := Fr.setCell (S := fun k => k = b) (Fr.refl _ w) (p := ⟨b, i, none⟩) (fun _ => rfl) _
  have n2 := own_neT h2 h1 (by decide)
  have n3 := own_neT h3 h1 (by decide)
  have n4 := own_neT h4 h1 (by decide)
  refine ⟨⟨⟨pa, ia, wa, aa, pc, ic, wc, ac, ?_, ?_, ?_, ?_, ?_, ?_, ?_, ?_⟩, hm, fun k hk => Nat.lt_of_lt_of_le (hl k hk) f.size⟩, f.mono (fun k _ e => e ▸ hm)⟩
  · rw [hP, hI, hW, heap_setCell_same w b i _ _ _ h1, ← hC]
    simp
  · rw [hP]; exact own_frameB h2 f (fun k hk e => n2 k hk e)
  · rw [hI]; exact own_frameB h3 f (fun k hk e => n3 k hk e)
  · rw [hW]; exact own_frameB h4 f (fun k hk e => n4 k hk e)
  · rw [hP]; exact h5
  · rw [hI]; exact h6
  · rw [hW]; exact h7
  · rw [hP, hI]; exact h8
/-- The plain cells of a disk. -/
theorem DkAt.cells {w : World} {b : Nat} {D : Dk} {S : Nat → Prop} (h : DkAt w b D S) : w.cell? ⟨b, 0, none⟩ = some (.int .i64 (D.page : Int)) ∧ w.cell? ⟨b, 4, none⟩ = some (.int .i64 (D.most : Int)) ∧ w.cell? ⟨b, 5, none⟩ = some (.bool D.off) ∧
    w.cell? ⟨b, 8, none⟩ = some (.int .i64 (D.wr : Int)) ∧ w.cell? ⟨b, 9, none⟩ = some (.int .i64 (D.gr : Int)) ∧ w.cell? ⟨b, 10, none⟩ = some (.int .i64 (D.sy : Int)) ∧ w.cell? ⟨b, 11, none⟩ = some (.int .i64 (D.life : Int)) ∧ w.cell? ⟨b, 12, none⟩ = some (.int .i64 (D.taken : Int)) := by
  obtain ⟨⟨pa, ia, wa, aa, pc, ic, wc, ac, h1, _⟩, _, _⟩ := h
  exact ⟨(cell_of_row _ _ _ _ _ _ h1).trans rfl, (cell_of_row _ _ _ _ _ _ h1).trans rfl, (cell_of_row _ _ _ _ _ _ h1).trans rfl, (cell_of_row _ _ _ _ _ _ h1).trans rfl, (cell_of_row _ _ _ _ _ _ h1).trans rfl, (cell_of_row _ _ _ _ _ _ h1).trans rfl, (cell_of_row _ _ _ _ _ _ h1).trans rfl, (cell_of_row _ _ _ _ _ _ h1).trans rfl⟩
/-- The row of what is seen. -/
theorem DkAt.rowP {w : World} {b : Nat} {D : Dk} {S : Nat → Prop} (h : DkAt w b D S) : ∃ pa pc, w.cell? ⟨b, 1, none⟩ = some (.slice pa D.P.length pc) ∧ w.ownsRow 0 9 1 (.slice pa D.P.length pc) D.P.length (scells D.P) := by
  obtain ⟨⟨pa, ia, wa, aa, pc, ic, wc, ac, h1, h2, _⟩, _, _⟩ := h
  exact ⟨pa, pc, (cell_of_row _ _ _ _ _ _ h1).trans rfl, h2⟩
theorem DkAt.rowI {w : World} {b : Nat} {D : Dk} {S : Nat → Prop} (h : DkAt w b D S) : ∃ ia ic, w.cell? ⟨b, 2, none⟩ = some (.int .i64 (D.page : Int)) ∧ w.cell? ⟨b, 3, none⟩ = some (.slice ia D.I.length ic) ∧ w.ownsRow 0 9 1 (.slice ia D.I.length ic) D.I.length (scells D.I) := by
  obtain ⟨⟨pa, ia, wa, aa, pc, ic, wc, ac, h1, _, h3, _⟩, _, _⟩ := h
  exact ⟨ia, ic, (cell_of_row _ _ _ _ _ _ h1).trans rfl, (cell_of_row _ _ _ _ _ _ h1).trans rfl, h3⟩
theorem DkAt.rowW {w : World} {b : Nat} {D : Dk} {S : Nat → Prop} (h : DkAt w b D S) : ∃ wa wc, w.cell? ⟨b, 6, none⟩ = some (.slice wa D.W.length wc) ∧ w.ownsRow 0 77 4 (.slice wa D.W.length wc) D.W.length (wtCs D.W) := by
  obtain ⟨⟨pa, ia, wa, aa, pc, ic, wc, ac, h1, _, _, h4, _⟩, _, _⟩ := h
  exact ⟨wa, wc, (cell_of_row _ _ _ _ _ _ h1).trans rfl, h4⟩
theorem DkAt.rowA {w : World} {b : Nat} {D : Dk} {S : Nat → Prop} (h : DkAt w b D S) : ∃ aa ac, w.cell? ⟨b, 7, none⟩ = some (.slice aa 0 ac) := by
  obtain ⟨⟨pa, ia, wa, aa, pc, ic, wc, ac, h1, _⟩, _, _⟩ := h
  exact ⟨aa, ac, (cell_of_row _ _ _ _ _ _ h1).trans rfl⟩
end Go.Proofs.Ytljlkcmjbjnihaa
