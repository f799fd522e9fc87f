/- disk: (*sheets).extend. -/
import Derived.Test.YtljlkcmjbjnihaaOG
import Derived.Test.YtljlkcmjbjnihaaOE
import Derived.Test.YtljlkcmjbjnihaaOK1
namespace Go.Proofs.Ytljlkcmjbjnihaa
open Go.RowKit

theorem ret_none {P : Program} {fn : Func} {R : Ending → World → Prop} {a : Act} {w : World} (h : fn.results = #[]) (hd : a.defers = []) (hR : R (.returned (.tuple #[])) w) : bodyPost P fn R .ret a w := bodyPost_ret (results_none h _ _ _) hd hR
theorem end_none {P : Program} {fn : Func} {R : Ending → World → Prop} {a : Act} {w : World} (h : fn.results = #[]) (hd : a.defers = []) (hR : R (.returned (.tuple #[])) w) : bodyPost P fn R .normal a w := bodyPost_end (results_none h _ _ _) hd hR
theorem appStrs {v : Value} {n m c : Nat} {ad : Addr} {xs news : List Value} (w : World) (ty : TypeId) (ho : w.ownsRow 0 9 1 v n xs) (hl : news.length = m * 1) (hnews : ∀ j u, news[j]? = some u → w.cell? (ad.add j) = some u) (h1 : ∀ u ∈ news, u.oneCell' = true) (hm : 0 < m) (hb : n + m ≤ 2097152) :
    ∃ g cap w', (Builtin.append_ #[22, 22] ty #[v, .slice (some ad) m c]).run Try.prog w = .ok (.slice (some ⟨g, 0, none⟩) (n + m) cap) w' ∧
      w'.ownsRow 0 9 1 (.slice (some ⟨g, 0, none⟩) (n + m) cap) (n + m) (xs ++ news) ∧ Fr (fun k => v.ownBlock = some k) w w' ∧ (v.ownBlock = some g ∨ g = w.heap.size) := by
  obtain ⟨i0, hi, hz0, hz1, hz2⟩ := info_parts Try.infStr
  obtain ⟨g, cap, w', h1, h2, h3, h4, _⟩ := run_append_lies (P := Try.prog) w 22 ty 0 9 i0 _ 1 16 Try.underlying22 hi hz0 hz1 hz2 rfl (by decide) v n xs ho ad m c news hl hnews h1 hm (by unfold maxLen; omega) (by omega) (Nat.zero_le _) w.heap.size rfl
  exact ⟨g, cap, w', h1, h2, Fr.grown (Fr.refl _ w) h3 (fun k e _ => e), h4⟩
theorem appWts {v : Value} {n m c : Nat} {ad : Addr} {xs news : List Value} (w : World) (ty : TypeId) (ho : w.ownsRow 0 77 4 v n xs) (hl : news.length = m * 4) (hnews : ∀ j u, news[j]? = some u → w.cell? (ad.add j) = some u) (h1 : ∀ u ∈ news, u.oneCell' = true) (hm : 0 < m) (hb : n + m ≤ 2097152) :
    ∃ g cap w', (Builtin.append_ #[48, 48] ty #[v, .slice (some ad) m c]).run Try.prog w = .ok (.slice (some ⟨g, 0, none⟩) (n + m) cap) w' ∧
      w'.ownsRow 0 77 4 (.slice (some ⟨g, 0, none⟩) (n + m) cap) (n + m) (xs ++ news) ∧ Fr (fun k => v.ownBlock = some k) w w' ∧ (v.ownBlock = some g ∨ g = w.heap.size) := by
  obtain ⟨i0, hi, hz0, hz1, hz2⟩ := info_parts Try.infWt
  obtain ⟨g, cap, w', h1, h2, h3, h4, _⟩ := run_append_lies (P := Try.prog) w 48 ty 0 77 i0 _ 4 32 Try.underlying48 hi hz0 hz1 hz2 rfl (by decide) v n xs ho ad m c news hl hnews h1 hm (by unfold maxLen; omega) (by omega) (Nat.zero_le _) w.heap.size rfl
  exact ⟨g, cap, w', h1, h2, Fr.grown (Fr.refl _ w) h3 (fun k e _ => e), h4⟩
def zerosT (pg : Nat) : ByteArray := ⟨(List.replicate pg 0).toArray⟩
def extP (pg : Nat) (l : List ByteArray) (n : Nat) : List ByteArray := l ++ List.replicate (n - l.length) (zerosT pg)
theorem extP_low {pg n : Nat} {l : List ByteArray} (h : n ≤ l.length) : extP pg l n = l := by unfold extP; rw [Nat.sub_eq_zero_of_le h]; simp
theorem extP_len {pg n : Nat} {l : List ByteArray} : (extP pg l n).length = max l.length n := by unfold extP; simp; omega
theorem scells_app (a b : List ByteArray) : scells (a ++ b) = scells a ++ scells b := by simp [scells]
theorem scells_rep (s : ByteArray) (n : Nat) : scells (List.replicate n s) = List.replicate n (Value.string s) := by simp [scells]
theorem scells_len (l : List ByteArray) : (scells l).length = l.length := by simp [scells]
def rOH0 : Array Oper := #[{ dst := some 5, op := Op.move (Operand.tmp 1), type := 3, pos := "sheets.go:35", after := #[], guard := none },
  { dst := some 6, op := Op.move (Operand.tmp 0), type := 68, pos := "sheets.go:35", after := #[], guard := none },
  { dst := some 7, op := Op.call { callee := Callee.value (Operand.func 36), args := #[Operand.tmp 6], argTypes := #[68] }, type := 3, pos := "sheets.go:35", after := #[{ on := 1, ground := Ground.data }], guard := none },
  { dst := some 8, op := Op.binOp BinOp.leq 3 (Operand.tmp 5) (Operand.tmp 7) 3, type := 4, pos := "sheets.go:35", after := #[{ on := 0, ground := Ground.data }, { on := 2, ground := Ground.data }], guard := none }]
def rOH1 : Array Oper := #[{ dst := some 9, op := Op.move (Operand.tmp 0), type := 68, pos := "sheets.go:38", after := #[], guard := none },
  { dst := some 10, op := Op.nilCheck (Operand.tmp 9), type := 0, pos := "sheets.go:38", after := #[{ on := 0, ground := Ground.data }], guard := none },
  { dst := some 11, op := Op.fieldAddr 46 (Operand.tmp 10) 0, type := 0, pos := "sheets.go:38", after := #[{ on := 1, ground := Ground.data }], guard := none },
  { dst := some 12, op := Op.load 3 (Operand.tmp 11), type := 3, pos := "sheets.go:38", after := #[{ on := 2, ground := Ground.data }], guard := none },
  { dst := some 13, op := Op.call { callee := Callee.value (Operand.func 52), args := #[Operand.const (Value.string { data := #[0] }), Operand.tmp 12], argTypes := #[9, 3] }, type := 9, pos := "sheets.go:38", after := #[{ on := 3, ground := Ground.data }], guard := none },
  { dst := some 4, op := Op.assign (Operand.tmp 13), type := 9, pos := "sheets.go:38", after := #[{ on := 4, ground := Ground.data }, { on := 4, ground := Ground.chain }, { on := 0, ground := Ground.phase }, { on := 1, ground := Ground.phase }, { on := 2, ground := Ground.phase }, { on := 3, ground := Ground.phase }, { on := 4, ground := Ground.phase }], guard := none }]
def rOH2 : Array Oper := #[{ dst := some 14, op := Op.move (Operand.tmp 0), type := 68, pos := "sheets.go:39", after := #[], guard := none },
  { dst := some 15, op := Op.move (Operand.tmp 0), type := 68, pos := "sheets.go:39", after := #[], guard := none },
  { dst := some 16, op := Op.nilCheck (Operand.tmp 15), type := 0, pos := "sheets.go:39", after := #[{ on := 1, ground := Ground.data }], guard := none },
  { dst := some 17, op := Op.fieldAddr 46 (Operand.tmp 16) 1, type := 0, pos := "sheets.go:39", after := #[{ on := 2, ground := Ground.data }], guard := none },
  { dst := some 18, op := Op.load 22 (Operand.tmp 17), type := 22, pos := "sheets.go:39", after := #[{ on := 3, ground := Ground.data }], guard := none },
  { dst := some 19, op := Op.move (Operand.tmp 4), type := 9, pos := "sheets.go:39", after := #[], guard := none },
  { dst := some 20, op := Op.buildSlice 22 1 #[(0, Operand.tmp 19)], type := 22, pos := "sheets.go:39", after := #[{ on := 5, ground := Ground.data }], guard := none },
  { dst := some 21, op := Op.move (Operand.tmp 1), type := 3, pos := "sheets.go:39", after := #[], guard := none },
  { dst := some 22, op := Op.move (Operand.tmp 0), type := 68, pos := "sheets.go:39", after := #[], guard := none },
  { dst := some 23, op := Op.call { callee := Callee.value (Operand.func 36), args := #[Operand.tmp 22], argTypes := #[68] }, type := 3, pos := "sheets.go:39", after := #[{ on := 8, ground := Ground.data }], guard := none },
  { dst := some 24, op := Op.binOp BinOp.sub 3 (Operand.tmp 21) (Operand.tmp 23) 3, type := 3, pos := "sheets.go:39", after := #[{ on := 7, ground := Ground.data }, { on := 9, ground := Ground.data }], guard := none },
  { dst := some 25, op := Op.call { callee := Callee.value (Operand.func 53), args := #[Operand.tmp 20, Operand.tmp 24], argTypes := #[22, 3] }, type := 22, pos := "sheets.go:39", after := #[{ on := 6, ground := Ground.data }, { on := 10, ground := Ground.data }, { on := 9, ground := Ground.chain }], guard := none },
  { dst := some 26, op := Op.call { callee := Callee.builtin Builtin.append, args := #[Operand.tmp 18, Operand.tmp 25], argTypes := #[22, 22] }, type := 22, pos := "sheets.go:39", after := #[{ on := 4, ground := Ground.data }, { on := 11, ground := Ground.data }, { on := 11, ground := Ground.chain }], guard := none },
  { dst := some 27, op := Op.nilCheck (Operand.tmp 14), type := 0, pos := "sheets.go:39", after := #[{ on := 0, ground := Ground.data }, { on := 0, ground := Ground.phase }, { on := 1, ground := Ground.phase }, { on := 2, ground := Ground.phase }, { on := 3, ground := Ground.phase }, { on := 4, ground := Ground.phase }, { on := 5, ground := Ground.phase }, { on := 6, ground := Ground.phase }, { on := 7, ground := Ground.phase }, { on := 8, ground := Ground.phase }, { on := 9, ground := Ground.phase }, { on := 10, ground := Ground.phase }, { on := 11, ground := Ground.phase }, { on := 12, ground := Ground.phase }], guard := none },
  { dst := some 28, op := Op.fieldAddr 46 (Operand.tmp 27) 1, type := 0, pos := "sheets.go:39", after := #[{ on := 13, ground := Ground.data }, { on := 0, ground := Ground.phase }, { on := 1, ground := Ground.phase }, { on := 2, ground := Ground.phase }, { on := 3, ground := Ground.phase }, { on := 4, ground := Ground.phase }, { on := 5, ground := Ground.phase }, { on := 6, ground := Ground.phase }, { on := 7, ground := Ground.phase }, { on := 8, ground := Ground.phase }, { on := 9, ground := Ground.phase }, { on := 10, ground := Ground.phase }, { on := 11, ground := Ground.phase }, { on := 12, ground := Ground.phase }], guard := none },
  { dst := none, op := Op.store 22 (Operand.tmp 28) (Operand.tmp 26), type := 0, pos := "sheets.go:39", after := #[{ on := 14, ground := Ground.data }, { on := 12, ground := Ground.data }, { on := 12, ground := Ground.chain }, { on := 0, ground := Ground.phase }, { on := 1, ground := Ground.phase }, { on := 2, ground := Ground.phase }, { on := 3, ground := Ground.phase }, { on := 4, ground := Ground.phase }, { on := 5, ground := Ground.phase }, { on := 6, ground := Ground.phase }, { on := 7, ground := Ground.phase }, { on := 8, ground := Ground.phase }, { on := 9, ground := Ground.phase }, { on := 10, ground := Ground.phase }, { on := 11, ground := Ground.phase }, { on := 12, ground := Ground.phase }], guard := none }]
def rOH2p : Array Oper := #[{ dst := some 14, op := Op.move (Operand.tmp 0), type := 68, pos := "sheets.go:39", after := #[], guard := none },
  { dst := some 15, op := Op.move (Operand.tmp 0), type := 68, pos := "sheets.go:39", after := #[], guard := none },
  { dst := some 16, op := Op.nilCheck (Operand.tmp 15), type := 0, pos := "sheets.go:39", after := #[{ on := 1, ground := Ground.data }], guard := none },
  { dst := some 17, op := Op.fieldAddr 46 (Operand.tmp 16) 1, type := 0, pos := "sheets.go:39", after := #[{ on := 2, ground := Ground.data }], guard := none },
  { dst := some 18, op := Op.load 22 (Operand.tmp 17), type := 22, pos := "sheets.go:39", after := #[{ on := 3, ground := Ground.data }], guard := none },
  { dst := some 19, op := Op.move (Operand.tmp 4), type := 9, pos := "sheets.go:39", after := #[], guard := none },
  { dst := some 20, op := Op.buildSlice 22 1 #[(0, Operand.tmp 19)], type := 22, pos := "sheets.go:39", after := #[{ on := 5, ground := Ground.data }], guard := none },
  { dst := some 21, op := Op.move (Operand.tmp 1), type := 3, pos := "sheets.go:39", after := #[], guard := none },
  { dst := some 22, op := Op.move (Operand.tmp 0), type := 68, pos := "sheets.go:39", after := #[], guard := none },
  { dst := some 23, op := Op.call { callee := Callee.value (Operand.func 36), args := #[Operand.tmp 22], argTypes := #[68] }, type := 3, pos := "sheets.go:39", after := #[{ on := 8, ground := Ground.data }], guard := none },
  { dst := some 24, op := Op.binOp BinOp.sub 3 (Operand.tmp 21) (Operand.tmp 23) 3, type := 3, pos := "sheets.go:39", after := #[{ on := 7, ground := Ground.data }, { on := 9, ground := Ground.data }], guard := none },
  { dst := some 25, op := Op.call { callee := Callee.value (Operand.func 53), args := #[Operand.tmp 20, Operand.tmp 24], argTypes := #[22, 3] }, type := 22, pos := "sheets.go:39", after := #[{ on := 6, ground := Ground.data }, { on := 10, ground := Ground.data }, { on := 9, ground := Ground.chain }], guard := none },
  { dst := some 26, op := Op.call { callee := Callee.builtin Builtin.append, args := #[Operand.tmp 18, Operand.tmp 25], argTypes := #[22, 22] }, type := 22, pos := "sheets.go:39", after := #[{ on := 4, ground := Ground.data }, { on := 11, ground := Ground.data }, { on := 11, ground := Ground.chain }], guard := none },
  { dst := some 27, op := Op.nilCheck (Operand.tmp 14), type := 0, pos := "sheets.go:39", after := #[{ on := 0, ground := Ground.data }, { on := 0, ground := Ground.phase }, { on := 1, ground := Ground.phase }, { on := 2, ground := Ground.phase }, { on := 3, ground := Ground.phase }, { on := 4, ground := Ground.phase }, { on := 5, ground := Ground.phase }, { on := 6, ground := Ground.phase }, { on := 7, ground := Ground.phase }, { on := 8, ground := Ground.phase }, { on := 9, ground := Ground.phase }, { on := 10, ground := Ground.phase }, { on := 11, ground := Ground.phase }, { on := 12, ground := Ground.phase }], guard := none },
  { dst := some 28, op := Op.fieldAddr 46 (Operand.tmp 27) 1, type := 0, pos := "sheets.go:39", after := #[{ on := 13, ground := Ground.data }, { on := 0, ground := Ground.phase }, { on := 1, ground := Ground.phase }, { on := 2, ground := Ground.phase }, { on := 3, ground := Ground.phase }, { on := 4, ground := Ground.phase }, { on := 5, ground := Ground.phase }, { on := 6, ground := Ground.phase }, { on := 7, ground := Ground.phase }, { on := 8, ground := Ground.phase }, { on := 9, ground := Ground.phase }, { on := 10, ground := Ground.phase }, { on := 11, ground := Ground.phase }, { on := 12, ground := Ground.phase }], guard := none }]
def rOH2f : Oper := { dst := none, op := Op.store 22 (Operand.tmp 28) (Operand.tmp 26), type := 0, pos := "sheets.go:39", after := #[{ on := 14, ground := Ground.data }, { on := 12, ground := Ground.data }, { on := 12, ground := Ground.chain }, { on := 0, ground := Ground.phase }, { on := 1, ground := Ground.phase }, { on := 2, ground := Ground.phase }, { on := 3, ground := Ground.phase }, { on := 4, ground := Ground.phase }, { on := 5, ground := Ground.phase }, { on := 6, ground := Ground.phase }, { on := 7, ground := Ground.phase }, { on := 8, ground := Ground.phase }, { on := 9, ground := Ground.phase }, { on := 10, ground := Ground.phase }, { on := 11, ground := Ground.phase }, { on := 12, ground := Ground.phase }], guard := none }
def cOH : Code := (Code.seq (Code.seq (Code.region 0 rOH0 false) (Code.cond (Operand.tmp 8) Code.ret Code.skip)) (Code.seq (Code.region 1 rOH1 false) (Code.region 2 rOH2 true)))
/-- What becomes of pages that are written to: their block, their row. -/
def ShOut (w w' : World) (b o : Nat) (pa : Option Addr) (n pc : Nat) (cs : Array Value) (T : TypeId) (l' : List ByteArray) : Prop :=
  ∃ pa' pc', w'.heap[b]? = some (.cells (cs.setIfInBounds (o + 1) (.slice pa' l'.length pc')) T (0, 0)) ∧ w'.ownsRow 0 9 1 (.slice pa' l'.length pc') l'.length (scells l') ∧
    Fr (fun k => k = b ∨ (Value.slice pa n pc).ownBlock = some k) w w' ∧ (∀ k, (Value.slice pa' l'.length pc').ownBlock = some k → (Value.slice pa n pc).ownBlock = some k ∨ w.heap.size ≤ k)
theorem set_self {cs : Array Value} {i : Nat} {v : Value} (h : cs[i]? = some v) : cs.setIfInBounds i v = cs := by
  obtain ⟨hi, rfl⟩ := Array.getElem?_eq_some_iff.1 h
  simp [Array.setIfInBounds, hi]
set_option maxRecDepth 100000 in
theorem ext_low {b o pc pg n : Nat} {pa : Option Addr} {l : List ByteArray} {cs : Array Value} {T : TypeId} (w : World) (h : w.heap[b]? = some (.cells cs T (0, 0))) (hc1 : cs[o + 1]? = some (.slice pa l.length pc)) (ho : w.ownsRow 0 9 1 (.slice pa l.length pc) l.length (scells l)) (hlow : n ≤ l.length) :
    Calls Try.prog 50 #[.pointer (some ⟨b, o, none⟩), .int .i64 (n : Int)] w fun e w' => e = .returned (.tuple #[]) ∧ ShOut w w' b o pa l.length pc cs T (extP pg l n) := by
  have c1 : w.cell? ⟨b, o + 1, none⟩ = some (.slice pa l.length pc) := (cell_of_row _ _ _ _ _ _ h).trans hc1
  have hZ := fun (W : World) (hc : W.cell? ⟨b, o + 1, none⟩ = some (.slice pa l.length pc)) => size_core (o := o) W hc
  have hlowi : (n : Int) ≤ (l.length : Int) := by omega
  refine calls_abs (c := cOH) Try.func50 (by kernel_rfl) 29 rfl (by simp) (fun a0 hsz hd ha => ?_)
  have fa0_0 := Fe.refl a0
  unfold cOH
  refine wp_seq (wp_seq ?_)
  refine wp_region_list ?_
  unfold rOH0
  refine fa0_0.move 5 (.int .i64 (n : Int)) _ (Or.inl rfl) rfl (lb_ hsz) (wanted_none rfl) ((fa0_0.at_ 1).trans (ha 1 _ rfl)) (fun a0_1 fa0_1 => ?_)
  clear fa0_0
  refine fa0_1.move 6 (.pointer (some ⟨b, o, none⟩)) _ (Or.inl rfl) rfl (lb_ hsz) (wanted_none rfl) ((fa0_1.at_ 0).trans (ha 0 _ rfl)) (fun a0_2 fa0_2 => ?_)
  clear fa0_1
  have r_a0_3 : (execOp a0_2.eval { dst := some 7, op := Op.call { callee := Callee.value (Operand.func 36), args := #[Operand.tmp 6], argTypes := #[68] }, type := 3, pos := "sheets.go:35", after := #[{ on := 1, ground := Ground.data }], guard := none }).run Try.prog (w) = .ok (.enter 36 #[.pointer (some ⟨b, o, none⟩)]) (w) := by
    have kf : ∀ f, a0_2.eval (.func f) = .func (.func f) #[] #[] := fun _ => rfl
    have e6 := (show a0_2.eval (.tmp 6) = .pointer (some ⟨b, o, none⟩) from (fa0_2.at_ 6))
    clear fa0_2 ha
    generalize a0_2.eval = ρ at *
    go_simp
  refine fa0_2.call 7 rfl (lb_ hsz) (wanted_none rfl) r_a0_3 (hZ w c1) (fun e w1 hR => ?_)
  obtain ⟨rfl, hw1⟩ := hR
  clear r_a0_3
  have hw1 := hw1.symm
  subst hw1
  refine ⟨_, rfl, fun a0_3 fa0_3 => ?_⟩
  clear fa0_2
  have r_a0_4 : (execOp a0_3.eval { dst := some 8, op := Op.binOp BinOp.leq 3 (Operand.tmp 5) (Operand.tmp 7) 3, type := 4, pos := "sheets.go:35", after := #[{ on := 0, ground := Ground.data }, { on := 2, ground := Ground.data }], guard := none }).run Try.prog (w) = .ok (.value (.bool true)) (w) := by
    have e5 := (show a0_3.eval (.tmp 5) = .int .i64 (n : Int) from (fa0_3.at_ 5))
    have e7 := (show a0_3.eval (.tmp 7) = .int .i64 (l.length : Int) from (fa0_3.at_ 7))
    clear fa0_3 ha
    generalize a0_3.eval = ρ at *
    go_simp
  refine fa0_3.step 8 (.bool true) rfl (lb_ hsz) (wanted_none rfl) r_a0_4 (fun a0_4 fa0_4 => ?_)
  clear r_a0_4
  clear fa0_3
  refine wpList_nil ?_
  change Code.wp _ _ _ _ _
  refine wp_cond_true (show a0_4.eval (.tmp 8) = .bool true from (fa0_4.at_ 8)) (wp_ret ?_)
  simp only [Exit.then]
  refine ret_none rfl (fa0_4.defers.trans hd) ⟨rfl, pa, pc, ?_⟩
  rw [extP_low hlow, set_self hc1]
  exact ⟨h, ho, Fr.refl _ _, fun k hk => Or.inl hk⟩
set_option maxRecDepth 100000 in
set_option maxHeartbeats 1000000 in
theorem ext_high {b o pc pg n : Nat} {pa : Option Addr} {l : List ByteArray} {cs : Array Value} {T : TypeId} (w : World) (hT : T ≠ 9) (h : w.heap[b]? = some (.cells cs T (0, 0))) (hc0 : cs[o]? = some (.int .i64 (pg : Int))) (hc1 : cs[o + 1]? = some (.slice pa l.length pc)) (ho : w.ownsRow 0 9 1 (.slice pa l.length pc) l.length (scells l)) (hlow : l.length < n) (hn : n ≤ 1048576) (hpg : pg ≤ 8192) :
    Calls Try.prog 50 #[.pointer (some ⟨b, o, none⟩), .int .i64 (n : Int)] w fun e w' => e = .returned (.tuple #[]) ∧ ShOut w w' b o pa l.length pc cs T (extP pg l n) := by
  have c1 : w.cell? ⟨b, o + 1, none⟩ = some (.slice pa l.length pc) := (cell_of_row _ _ _ _ _ _ h).trans hc1
  have c0 : w.cell? ⟨b, o, none⟩ = some (.int .i64 (pg : Int)) := (cell_of_row _ _ _ _ _ _ h).trans hc0
  have hZ := fun (W : World) (hc : W.cell? ⟨b, o + 1, none⟩ = some (.slice pa l.length pc)) => size_core (o := o) W hc
  have hlowi : ¬ (n : Int) ≤ (l.length : Int) := by omega
  have hnb : ¬ (Value.slice pa l.length pc).ownBlock = some b := fun e => own_neT ho h (Ne.symm hT) b e rfl
  have e6 : IntKind.i64.wrap ((n : Int) - (l.length : Int)) = ((n - l.length : Nat) : Int) := by rw [IntKind.wrap_i64]; omega
  refine calls_abs (c := cOH) Try.func50 (by kernel_rfl) 29 rfl (by simp) (fun a0 hsz hd ha => ?_)
  have fa0_0 := Fe.refl a0
  unfold cOH
  refine wp_seq (wp_seq ?_)
  refine wp_region_list ?_
  unfold rOH0
  refine fa0_0.move 5 (.int .i64 (n : Int)) _ (Or.inl rfl) rfl (lb_ hsz) (wanted_none rfl) ((fa0_0.at_ 1).trans (ha 1 _ rfl)) (fun a0_1 fa0_1 => ?_)
  clear fa0_0
  refine fa0_1.move 6 (.pointer (some ⟨b, o, none⟩)) _ (Or.inl rfl) rfl (lb_ hsz) (wanted_none rfl) ((fa0_1.at_ 0).trans (ha 0 _ rfl)) (fun a0_2 fa0_2 => ?_)
  clear fa0_1
  have r_a0_3 : (execOp a0_2.eval { dst := some 7, op := Op.call { callee := Callee.value (Operand.func 36), args := #[Operand.tmp 6], argTypes := #[68] }, type := 3, pos := "sheets.go:35", after := #[{ on := 1, ground := Ground.data }], guard := none }).run Try.prog (w) = .ok (.enter 36 #[.pointer (some ⟨b, o, none⟩)]) (w) := by
    have kf : ∀ f, a0_2.eval (.func f) = .func (.func f) #[] #[] := fun _ => rfl
    have e6 := (show a0_2.eval (.tmp 6) = .pointer (some ⟨b, o, none⟩) from (fa0_2.at_ 6))
    clear fa0_2 ha
    generalize a0_2.eval = ρ at *
    go_simp
  refine fa0_2.call 7 rfl (lb_ hsz) (wanted_none rfl) r_a0_3 (hZ w c1) (fun e w1 hR => ?_)
  obtain ⟨rfl, hw1⟩ := hR
  clear r_a0_3
  have hw1 := hw1.symm
  subst hw1
  refine ⟨_, rfl, fun a0_3 fa0_3 => ?_⟩
  clear fa0_2
  have r_a0_4 : (execOp a0_3.eval { dst := some 8, op := Op.binOp BinOp.leq 3 (Operand.tmp 5) (Operand.tmp 7) 3, type := 4, pos := "sheets.go:35", after := #[{ on := 0, ground := Ground.data }, { on := 2, ground := Ground.data }], guard := none }).run Try.prog (w) = .ok (.value (.bool false)) (w) := by
    have e5 := (show a0_3.eval (.tmp 5) = .int .i64 (n : Int) from (fa0_3.at_ 5))
    have e7 := (show a0_3.eval (.tmp 7) = .int .i64 (l.length : Int) from (fa0_3.at_ 7))
    clear fa0_3 ha
    generalize a0_3.eval = ρ at *
    go_simp
  refine fa0_3.step 8 (.bool false) rfl (lb_ hsz) (wanted_none rfl) r_a0_4 (fun a0_4 fa0_4 => ?_)
  clear r_a0_4
  clear fa0_3
  refine wpList_nil ?_
  change Code.wp _ _ _ _ _
  refine wp_cond_false (show a0_4.eval (.tmp 8) = .bool false from (fa0_4.at_ 8)) (wp_skip ?_)
  change Code.wp _ _ _ _ _
  refine wp_seq ?_
  refine wp_region_list ?_
  unfold rOH1
  refine fa0_4.move 9 (.pointer (some ⟨b, o, none⟩)) _ (Or.inl rfl) rfl (lb_ hsz) (wanted_none rfl) ((fa0_4.at_ 0).trans (ha 0 _ rfl)) (fun a0_5 fa0_5 => ?_)
  clear fa0_4
  have r_a0_6 : (execOp a0_5.eval { dst := some 10, op := Op.nilCheck (Operand.tmp 9), type := 0, pos := "sheets.go:38", after := #[{ on := 0, ground := Ground.data }], guard := none }).run Try.prog (w) = .ok (.value (.pointer (some ⟨b, o, none⟩))) (w) := by
    have e9 := (show a0_5.eval (.tmp 9) = .pointer (some ⟨b, o, none⟩) from (fa0_5.at_ 9))
    clear fa0_5 ha
    generalize a0_5.eval = ρ at *
    go_simp
  refine fa0_5.step 10 (.pointer (some ⟨b, o, none⟩)) rfl (lb_ hsz) (wanted_none rfl) r_a0_6 (fun a0_6 fa0_6 => ?_)
  clear r_a0_6
  clear fa0_5
  have r_a0_7 : (execOp a0_6.eval { dst := some 11, op := Op.fieldAddr 46 (Operand.tmp 10) 0, type := 0, pos := "sheets.go:38", after := #[{ on := 1, ground := Ground.data }], guard := none }).run Try.prog (w) = .ok (.value (.pointer (some ⟨b, o, none⟩))) (w) := by
    have e10 := (show a0_6.eval (.tmp 10) = .pointer (some ⟨b, o, none⟩) from (fa0_6.at_ 10))
    clear fa0_6 ha
    generalize a0_6.eval = ρ at *
    go_simp
  refine fa0_6.step 11 (.pointer (some ⟨b, o, none⟩)) rfl (lb_ hsz) (wanted_none rfl) r_a0_7 (fun a0_7 fa0_7 => ?_)
  clear r_a0_7
  clear fa0_6
  have r_a0_8 : (execOp a0_7.eval { dst := some 12, op := Op.load 3 (Operand.tmp 11), type := 3, pos := "sheets.go:38", after := #[{ on := 2, ground := Ground.data }], guard := none }).run Try.prog (w) = .ok (.value (.int .i64 (pg : Int))) (w) := by
    have e11 := (show a0_7.eval (.tmp 11) = .pointer (some ⟨b, o, none⟩) from (fa0_7.at_ 11))
    clear fa0_7 ha
    generalize a0_7.eval = ρ at *
    go_simp
  refine fa0_7.step 12 (.int .i64 (pg : Int)) rfl (lb_ hsz) (wanted_none rfl) r_a0_8 (fun a0_8 fa0_8 => ?_)
  clear r_a0_8
  clear fa0_7
  have r_a0_9 : (execOp a0_8.eval { dst := some 13, op := Op.call { callee := Callee.value (Operand.func 52), args := #[Operand.const (Value.string { data := #[0] }), Operand.tmp 12], argTypes := #[9, 3] }, type := 9, pos := "sheets.go:38", after := #[{ on := 3, ground := Ground.data }], guard := none }).run Try.prog (w) = .ok (.enter 52 #[Value.string { data := #[0] }, .int .i64 (pg : Int)]) (w) := by
    have kc : ∀ v, a0_8.eval (.const v) = v := fun _ => rfl
    have kf : ∀ f, a0_8.eval (.func f) = .func (.func f) #[] #[] := fun _ => rfl
    have e12 := (show a0_8.eval (.tmp 12) = .int .i64 (pg : Int) from (fa0_8.at_ 12))
    clear fa0_8 ha
    generalize a0_8.eval = ρ at *
    go_simp
  refine fa0_8.call 13 rfl (lb_ hsz) (wanted_none rfl) r_a0_9 (repeat0_calls pg w (by omega)) (fun e V hR => ?_)
  obtain ⟨rfl, s1⟩ := hR
  clear r_a0_9
  refine ⟨_, rfl, fun a0_9 fa0_9 => ?_⟩
  clear fa0_8
  refine fa0_9.move 4 (.string (zerosT pg)) _ (Or.inr rfl) rfl (lb_ hsz) (wanted_none rfl) (fa0_9.at_ 13) (fun a0_10 fa0_10 => ?_)
  clear fa0_9
  refine wpList_nil ?_
  have d1 := s1.keep c1
  have hV : V.heap[b]? = some (.cells cs T (0, 0)) := (s1.block _ (lt_of_heap h) (fun f => f)).trans h
  have dd : Same V V.drew := (Fr.refl (fun _ => False) V).drew
  change Code.wp _ _ _ _ _
  refine wp_region_pop (ops := rOH2) (ops' := rOH2p) (F := rOH2f) (S := fun Z => Z.cell? ⟨b, o + 1, none⟩ = some (.slice pa l.length pc)) (by kernel_rfl) rfl (by kernel_rfl) rfl (by kernel_rfl) (by kernel_rfl) (by kernel_rfl) (dd.keep d1) (fun hS10 => ?_)
  refine fa0_10.takeMove 0 14 (.pointer (some ⟨b, o, none⟩)) _ (Or.inl rfl) rfl (by kernel_rfl) (by kernel_rfl) (by kernel_rfl) (fun _ _ _ h => h) rfl (lb_ hsz) (wanted_none rfl) ((fa0_10.at_ 0).trans (ha 0 _ rfl)) hS10 (fun a0_11 fa0_11 => ?_)
  clear fa0_10
  refine fa0_11.takeMove 1 15 (.pointer (some ⟨b, o, none⟩)) _ (Or.inl rfl) rfl (by kernel_rfl) (by kernel_rfl) (by kernel_rfl) (fun _ _ _ h => h) rfl (lb_ hsz) (wanted_none rfl) ((fa0_11.at_ 0).trans (ha 0 _ rfl)) hS10 (fun a0_12 fa0_12 => ?_)
  clear fa0_11
  have r_a0_13 : ∀ Z, (fun Z => Z.cell? ⟨b, o + 1, none⟩ = some (.slice pa l.length pc)) Z → (execOp a0_12.eval { dst := some 16, op := Op.nilCheck (Operand.tmp 15), type := 0, pos := "sheets.go:39", after := #[{ on := 1, ground := Ground.data }], guard := none }).run Try.prog Z = .ok (.value (.pointer (some ⟨b, o, none⟩))) Z := fun Z hZ => by
    have e15 := (show a0_12.eval (.tmp 15) = .pointer (some ⟨b, o, none⟩) from (fa0_12.at_ 15))
    clear fa0_12 ha
    generalize a0_12.eval = ρ at *
    go_simp
  refine fa0_12.take 2 16 (.pointer (some ⟨b, o, none⟩)) rfl (by kernel_rfl) (by kernel_rfl) (by kernel_rfl) (fun _ _ _ h => h) rfl (lb_ hsz) (wanted_none rfl) r_a0_13 hS10 (fun a0_13 fa0_13 => ?_)
  clear r_a0_13
  clear fa0_12
  have r_a0_14 : ∀ Z, (fun Z => Z.cell? ⟨b, o + 1, none⟩ = some (.slice pa l.length pc)) Z → (execOp a0_13.eval { dst := some 17, op := Op.fieldAddr 46 (Operand.tmp 16) 1, type := 0, pos := "sheets.go:39", after := #[{ on := 2, ground := Ground.data }], guard := none }).run Try.prog Z = .ok (.value (.pointer (some ⟨b, o + 1, none⟩))) Z := fun Z hZ => by
    have e16 := (show a0_13.eval (.tmp 16) = .pointer (some ⟨b, o, none⟩) from (fa0_13.at_ 16))
    clear fa0_13 ha
    generalize a0_13.eval = ρ at *
    go_simp
  refine fa0_13.take 3 17 (.pointer (some ⟨b, o + 1, none⟩)) rfl (by kernel_rfl) (by kernel_rfl) (by kernel_rfl) (fun _ _ _ h => h) rfl (lb_ hsz) (wanted_none rfl) r_a0_14 hS10 (fun a0_14 fa0_14 => ?_)
  clear r_a0_14
  clear fa0_13
  have r_a0_15 : ∀ Z, (fun Z => Z.cell? ⟨b, o + 1, none⟩ = some (.slice pa l.length pc)) Z → (execOp a0_14.eval { dst := some 18, op := Op.load 22 (Operand.tmp 17), type := 22, pos := "sheets.go:39", after := #[{ on := 3, ground := Ground.data }], guard := none }).run Try.prog Z = .ok (.value (.slice pa l.length pc)) Z := fun Z hZ => by
    have e17 := (show a0_14.eval (.tmp 17) = .pointer (some ⟨b, o + 1, none⟩) from (fa0_14.at_ 17))
    clear fa0_14 ha
    generalize a0_14.eval = ρ at *
    go_simp
  refine fa0_14.take 4 18 (.slice pa l.length pc) rfl (by kernel_rfl) (by kernel_rfl) (by kernel_rfl) (fun _ _ _ h => h) rfl (lb_ hsz) (wanted_none rfl) r_a0_15 hS10 (fun a0_15 fa0_15 => ?_)
  clear r_a0_15
  clear fa0_14
  refine fa0_15.takeMove 5 19 (.string (zerosT pg)) _ (Or.inl rfl) rfl (by kernel_rfl) (by kernel_rfl) (by kernel_rfl) (fun _ _ _ h => h) rfl (lb_ hsz) (wanted_none rfl) (fa0_15.at_ 4) hS10 (fun a0_16 fa0_16 => ?_)
  clear fa0_15
  refine fa0_16.takeMove 7 21 (.int .i64 (n : Int)) _ (Or.inl rfl) rfl (by kernel_rfl) (by kernel_rfl) (by kernel_rfl) (fun _ _ _ h => h) rfl (lb_ hsz) (wanted_none rfl) ((fa0_16.at_ 1).trans (ha 1 _ rfl)) hS10 (fun a0_17 fa0_17 => ?_)
  clear fa0_16
  refine fa0_17.takeMove 8 22 (.pointer (some ⟨b, o, none⟩)) _ (Or.inl rfl) rfl (by kernel_rfl) (by kernel_rfl) (by kernel_rfl) (fun _ _ _ h => h) rfl (lb_ hsz) (wanted_none rfl) ((fa0_17.at_ 0).trans (ha 0 _ rfl)) hS10 (fun a0_18 fa0_18 => ?_)
  clear fa0_17
  have r_a0_19 : ∀ Z, (fun Z => Z.cell? ⟨b, o + 1, none⟩ = some (.slice pa l.length pc)) Z → (execOp a0_18.eval { dst := some 23, op := Op.call { callee := Callee.value (Operand.func 36), args := #[Operand.tmp 22], argTypes := #[68] }, type := 3, pos := "sheets.go:39", after := #[{ on := 8, ground := Ground.data }], guard := none }).run Try.prog Z = .ok (.enter 36 #[.pointer (some ⟨b, o, none⟩)]) Z := fun Z hZ => by
    have kf : ∀ f, a0_18.eval (.func f) = .func (.func f) #[] #[] := fun _ => rfl
    have e22 := (show a0_18.eval (.tmp 22) = .pointer (some ⟨b, o, none⟩) from (fa0_18.at_ 22))
    clear fa0_18 ha
    generalize a0_18.eval = ρ at *
    go_simp
  refine fa0_18.takeCall 9 23 (.int .i64 (l.length : Int)) _ _ rfl (by kernel_rfl) (by kernel_rfl) (by kernel_rfl) (fun _ _ _ h => h) rfl (lb_ hsz) (wanted_none rfl) r_a0_19 (fun W hW => hZ W hW) hS10 (fun a0_19 fa0_19 => ?_)
  clear r_a0_19
  clear fa0_18
  have r_a0_20 : ∀ Z, (fun Z => Z.cell? ⟨b, o + 1, none⟩ = some (.slice pa l.length pc)) Z → (execOp a0_19.eval { dst := some 24, op := Op.binOp BinOp.sub 3 (Operand.tmp 21) (Operand.tmp 23) 3, type := 3, pos := "sheets.go:39", after := #[{ on := 7, ground := Ground.data }, { on := 9, ground := Ground.data }], guard := none }).run Try.prog Z = .ok (.value (.int .i64 ((n - l.length : Nat) : Int))) Z := fun Z hZ => by
    have e21 := (show a0_19.eval (.tmp 21) = .int .i64 (n : Int) from (fa0_19.at_ 21))
    have e23 := (show a0_19.eval (.tmp 23) = .int .i64 (l.length : Int) from (fa0_19.at_ 23))
    clear fa0_19 ha
    generalize a0_19.eval = ρ at *
    go_simp
  refine fa0_19.take 10 24 (.int .i64 ((n - l.length : Nat) : Int)) rfl (by kernel_rfl) (by kernel_rfl) (by kernel_rfl) (fun _ _ _ h => h) rfl (lb_ hsz) (wanted_none rfl) r_a0_20 hS10 (fun a0_20 fa0_20 => ?_)
  clear r_a0_20
  clear fa0_19
  have ea : Same V (World.alloc V.drew (.cells #[.string (zerosT pg)] 9)) := dd.trans ((Fr.refl _ V.drew).alloc _)
  have r_a0_21 : (execOp a0_20.eval { dst := some 20, op := Op.buildSlice 22 1 #[(0, Operand.tmp 19)], type := 22, pos := "sheets.go:39", after := #[{ on := 5, ground := Ground.data }], guard := none }).run Try.prog (V.drew) = .ok (.value (.slice (some ⟨V.heap.size, 0, none⟩) 1 1)) (World.alloc V.drew (.cells #[.string (zerosT pg)] 9)) := by
    have e19 := (show a0_20.eval (.tmp 19) = .string (zerosT pg) from (fa0_20.at_ 19))
    clear fa0_20 ha
    generalize a0_20.eval = ρ at *
    go_simp
  have hS21 : (fun Z => Z.cell? ⟨b, o + 1, none⟩ = some (.slice pa l.length pc)) (World.alloc V.drew (.cells #[.string (zerosT pg)] 9)) := ea.keep d1
  refine fa0_20.one 6 20 (.slice (some ⟨V.heap.size, 0, none⟩) 1 1) (by kernel_rfl) rfl rfl (lb_ hsz) (wanted_none rfl) r_a0_21 hS21 (fun a0_21 fa0_21 => ?_)
  clear r_a0_21
  have hva : (World.alloc V.drew (.cells #[.string (zerosT pg)] 9)).heap[V.heap.size]? = some (.cells #[.string (zerosT pg)] 9 (0, 0)) := heap_alloc_new V.drew _
  have e1 := ea.keep d1
  generalize World.alloc V.drew (.cells #[.string (zerosT pg)] 9) = V1 at *
  have hva0 : V1.cell? ⟨V.heap.size, 0, none⟩ = some (.string (zerosT pg)) := (cell_of_row _ _ _ _ _ _ hva).trans rfl
  clear fa0_20
  have r_a0_22 : (execOp a0_21.eval { dst := some 25, op := Op.call { callee := Callee.value (Operand.func 53), args := #[Operand.tmp 20, Operand.tmp 24], argTypes := #[22, 3] }, type := 22, pos := "sheets.go:39", after := #[{ on := 6, ground := Ground.data }, { on := 10, ground := Ground.data }, { on := 9, ground := Ground.chain }], guard := none }).run Try.prog (V1) = .ok (.enter 53 #[.slice (some ⟨V.heap.size, 0, none⟩) 1 1, .int .i64 ((n - l.length : Nat) : Int)]) (V1) := by
    have kf : ∀ f, a0_21.eval (.func f) = .func (.func f) #[] #[] := fun _ => rfl
    have e20 := (show a0_21.eval (.tmp 20) = .slice (some ⟨V.heap.size, 0, none⟩) 1 1 from (fa0_21.at_ 20))
    have e24 := (show a0_21.eval (.tmp 24) = .int .i64 ((n - l.length : Nat) : Int) from (fa0_21.at_ 24))
    clear fa0_21 ha
    generalize a0_21.eval = ρ at *
    go_simp
  refine fa0_21.oneCall 11 25 (by kernel_rfl) rfl rfl (lb_ hsz) (wanted_none rfl) r_a0_22 (repeatStr V1 hva0 (by omega) (by omega)) (fun e V2 hR => ?_)
  obtain ⟨gr, cr, rfl, o2, s2⟩ := hR
  clear r_a0_22
  have s02 : Same w V2 := s1.trans (ea.trans s2)
  obtain ⟨g3, c3, V3, hr3, o3, f3, l3⟩ := appStrs (c := cr) (news := List.replicate (n - l.length) (Value.string (zerosT pg))) V2 22 (own_frameB ho s02 (fun _ _ f => f)) (by rw [List.length_replicate, Nat.mul_one]) (fun j u hj => by rw [WideShapes.add_plain, Nat.zero_add]; exact own_cell (own_base o2 (Nat.zero_le _)) hj) (fun u hu => by rw [List.eq_of_mem_replicate hu]; rfl) (show 0 < n - l.length by omega) (by omega)
  have h3 : V3.heap[b]? = some (.cells cs T (0, 0)) := (f3.block _ (lt_of_heap (heap_fr h s02 (fun f => f))) hnb).trans (heap_fr h s02 (fun f => f))
  have c31 : V3.cell? ⟨b, o + 1, none⟩ = some (.slice pa l.length pc) := (cell_of_row _ _ _ _ _ _ h3).trans hc1
  have z31 : V3.frozen? ⟨b, o + 1, none⟩ = false := frozen_of_row _ _ _ _ _ h3
  have hS22 : (fun Z => Z.cell? ⟨b, o + 1, none⟩ = some (.slice pa l.length pc)) V2 := s2.keep e1
  refine ⟨_, rfl, hS22, fun a0_22 fa0_22 => ?_⟩
  clear fa0_21
  have r_a0_23 : (execOp a0_22.eval { dst := some 26, op := Op.call { callee := Callee.builtin Builtin.append, args := #[Operand.tmp 18, Operand.tmp 25], argTypes := #[22, 22] }, type := 22, pos := "sheets.go:39", after := #[{ on := 4, ground := Ground.data }, { on := 11, ground := Ground.data }, { on := 11, ground := Ground.chain }], guard := none }).run Try.prog (V2) = .ok (.value (.slice (some ⟨g3, 0, none⟩) (l.length + (n - l.length)) c3)) (V3) := by
    refine exec_append rfl ?_
    rw [(show a0_22.eval (.tmp 18) = .slice pa l.length pc from (fa0_22.at_ 18)), (show a0_22.eval (.tmp 25) = .slice (some ⟨gr, 0, none⟩) (n - l.length) cr from (fa0_22.at_ 25))]
    exact hr3
  have hS23 : (fun Z => Z.cell? ⟨b, o + 1, none⟩ = some (.slice pa l.length pc)) (V3) := c31
  refine fa0_22.one 12 26 (.slice (some ⟨g3, 0, none⟩) (l.length + (n - l.length)) c3) (by kernel_rfl) rfl rfl (lb_ hsz) (wanted_none rfl) r_a0_23 hS23 (fun a0_23 fa0_23 => ?_)
  clear r_a0_23
  clear fa0_22
  have r_a0_24 : ∀ Z, (fun Z => Z.cell? ⟨b, o + 1, none⟩ = some (.slice pa l.length pc)) Z → (execOp a0_23.eval { dst := some 27, op := Op.nilCheck (Operand.tmp 14), type := 0, pos := "sheets.go:39", after := #[{ on := 0, ground := Ground.data }, { on := 0, ground := Ground.phase }, { on := 1, ground := Ground.phase }, { on := 2, ground := Ground.phase }, { on := 3, ground := Ground.phase }, { on := 4, ground := Ground.phase }, { on := 5, ground := Ground.phase }, { on := 6, ground := Ground.phase }, { on := 7, ground := Ground.phase }, { on := 8, ground := Ground.phase }, { on := 9, ground := Ground.phase }, { on := 10, ground := Ground.phase }, { on := 11, ground := Ground.phase }, { on := 12, ground := Ground.phase }], guard := none }).run Try.prog Z = .ok (.value (.pointer (some ⟨b, o, none⟩))) Z := fun Z hZ => by
    have e14 := (show a0_23.eval (.tmp 14) = .pointer (some ⟨b, o, none⟩) from (fa0_23.at_ 14))
    clear fa0_23 ha
    generalize a0_23.eval = ρ at *
    go_simp
  refine fa0_23.take 13 27 (.pointer (some ⟨b, o, none⟩)) rfl (by kernel_rfl) (by kernel_rfl) (by kernel_rfl) (fun _ _ _ h => h) rfl (lb_ hsz) (wanted_none rfl) r_a0_24 hS23 (fun a0_24 fa0_24 => ?_)
  clear r_a0_24
  clear fa0_23
  have r_a0_25 : ∀ Z, (fun Z => Z.cell? ⟨b, o + 1, none⟩ = some (.slice pa l.length pc)) Z → (execOp a0_24.eval { dst := some 28, op := Op.fieldAddr 46 (Operand.tmp 27) 1, type := 0, pos := "sheets.go:39", after := #[{ on := 13, ground := Ground.data }, { on := 0, ground := Ground.phase }, { on := 1, ground := Ground.phase }, { on := 2, ground := Ground.phase }, { on := 3, ground := Ground.phase }, { on := 4, ground := Ground.phase }, { on := 5, ground := Ground.phase }, { on := 6, ground := Ground.phase }, { on := 7, ground := Ground.phase }, { on := 8, ground := Ground.phase }, { on := 9, ground := Ground.phase }, { on := 10, ground := Ground.phase }, { on := 11, ground := Ground.phase }, { on := 12, ground := Ground.phase }], guard := none }).run Try.prog Z = .ok (.value (.pointer (some ⟨b, o + 1, none⟩))) Z := fun Z hZ => by
    have e27 := (show a0_24.eval (.tmp 27) = .pointer (some ⟨b, o, none⟩) from (fa0_24.at_ 27))
    clear fa0_24 ha
    generalize a0_24.eval = ρ at *
    go_simp
  refine fa0_24.take 14 28 (.pointer (some ⟨b, o + 1, none⟩)) rfl (by kernel_rfl) (by kernel_rfl) (by kernel_rfl) (fun _ _ _ h => h) rfl (lb_ hsz) (wanted_none rfl) r_a0_25 hS23 (fun a0_25 fa0_25 => ?_)
  clear r_a0_25
  clear fa0_24
  have r_a0_26 : (execOp a0_25.eval rOH2f).run Try.prog (V3) = .ok .skip (World.setCell V3 ⟨b, o + 1, none⟩ (.slice (some ⟨g3, 0, none⟩) (l.length + (n - l.length)) c3)) := by
    unfold rOH2f
    have e28 := (show a0_25.eval (.tmp 28) = .pointer (some ⟨b, o + 1, none⟩) from (fa0_25.at_ 28))
    have e26 := (show a0_25.eval (.tmp 26) = .slice (some ⟨g3, 0, none⟩) (l.length + (n - l.length)) c3 from (fa0_25.at_ 26))
    clear fa0_25 ha
    generalize a0_25.eval = ρ at *
    go_simp
  refine wpAnyH_done (by kernel_rfl) ?_ _
  refine fa0_25.last rfl r_a0_26 (fun a0_26 fa0_26 => ?_)
  clear r_a0_26 fa0_25
  have hlen : (extP pg l n).length = l.length + (n - l.length) := by unfold extP; simp
  have hcel : scells (extP pg l n) = scells l ++ List.replicate (n - l.length) (Value.string (zerosT pg)) := by unfold extP; rw [scells_app, scells_rep]
  have f9 : Fr (fun k => k = b) V3 (V3.setCell ⟨b, o + 1, none⟩ (.slice (some ⟨g3, 0, none⟩) (l.length + (n - l.length)) c3)) := Fr.setCell (S := fun k => k = b) (Fr.refl _ V3) (p := ⟨b, o + 1, none⟩) (fun _ => rfl) _
  refine end_none rfl (fa0_26.defers.trans hd) ⟨rfl, some ⟨g3, 0, none⟩, c3, ?_, ?_, ?_, ?_⟩
  · rw [hlen]; exact heap_setCell_same V3 b (o + 1) _ _ _ h3
  · rw [hlen, hcel]; exact own_frameB o3 f9 (fun k hk e => own_neT o3 h3 (Ne.symm hT) k hk e)
  · exact Fr.trans (Fr.trans (s02.mono (fun _ _ f => f.elim)) f3 (fun k _ e => Or.inr e)) f9 (fun k _ e => Or.inl e)
  · rw [hlen]
    intro k hk
    simp only [Value.ownBlock, Option.some.injEq] at hk
    rcases l3 with e | e
    · exact Or.inl (e.trans (by rw [hk]))
    · exact Or.inr (by have := s02.size; omega)
/-- Pages are laid behind the others until there are n. -/
theorem extend_calls {b o pc pg n : Nat} {pa : Option Addr} {l : List ByteArray} {cs : Array Value} {T : TypeId} (w : World) (hT : T ≠ 9) (h : w.heap[b]? = some (.cells cs T (0, 0))) (hc0 : cs[o]? = some (.int .i64 (pg : Int))) (hc1 : cs[o + 1]? = some (.slice pa l.length pc)) (ho : w.ownsRow 0 9 1 (.slice pa l.length pc) l.length (scells l)) (hn : n ≤ 1048576) (hpg : pg ≤ 8192) :
    Calls Try.prog 50 #[.pointer (some ⟨b, o, none⟩), .int .i64 (n : Int)] w fun e w' => e = .returned (.tuple #[]) ∧ ShOut w w' b o pa l.length pc cs T (extP pg l n) := by
  by_cases hlow : n ≤ l.length
  · exact ext_low w h hc1 ho hlow
  · exact ext_high w hT h hc0 hc1 ho (by omega) hn hpg
end Go.Proofs.Ytljlkcmjbjnihaa
