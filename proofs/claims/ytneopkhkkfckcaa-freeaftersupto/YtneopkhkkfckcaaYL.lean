/- free: After. -/
import Derived.Test.YtneopkhkkfckcaaYE
import Derived.Test.YtneopkhkkfckcaaYK
import Derived.Test.YtneopkhkkfckcaaIN
namespace Go.Proofs.Ytneopkhkkfckcaa
open Go.RowKit Go.Maps

def oYL0 : Oper := { dst := some 3, op := Op.box 26 (Operand.tmp 1), type := 0, pos := "chain.go:54", after := #[], guard := none }
def oYL1 : Oper := { dst := some 8, op := Op.fieldAddr 26 (Operand.tmp 3) 2, type := 0, pos := "chain.go:55", after := #[], guard := none }
def oYL2 : Oper := { dst := some 9, op := Op.load 3 (Operand.tmp 8), type := 3, pos := "chain.go:55", after := #[{ on := 0, ground := Ground.data }], guard := none }
def oYL3 : Oper := { dst := some 10, op := Op.call { callee := Callee.builtin Builtin.max, args := #[Operand.tmp 9, Operand.const (Value.int IntKind.i64 0)], argTypes := #[3, 3] }, type := 3, pos := "chain.go:55", after := #[{ on := 1, ground := Ground.data }], guard := none }
def oYL4 : Oper := { dst := some 12, op := Op.call { callee := Callee.builtin Builtin.len, args := #[Operand.tmp 11], argTypes := #[22] }, type := 3, pos := "chain.go:55", after := #[{ on := 3, ground := Ground.data }], guard := none }
def oYL5 : Oper := { dst := some 13, op := Op.call { callee := Callee.builtin Builtin.min, args := #[Operand.tmp 10, Operand.tmp 12], argTypes := #[3, 3] }, type := 3, pos := "chain.go:55", after := #[{ on := 2, ground := Ground.data }, { on := 4, ground := Ground.data }], guard := none }
def oYL6 : Oper := { dst := some 14, op := Op.fieldAddr 26 (Operand.tmp 3) 1, type := 0, pos := "chain.go:56", after := #[], guard := none }
def oYL7 : Oper := { dst := some 15, op := Op.load 22 (Operand.tmp 14), type := 22, pos := "chain.go:56", after := #[{ on := 0, ground := Ground.data }], guard := none }
def oYL8 : Oper := { dst := some 18, op := Op.slice 22 (Operand.tmp 16) (some (Operand.tmp 17)) none none, type := 22, pos := "chain.go:56", after := #[{ on := 2, ground := Ground.data }, { on := 3, ground := Ground.data }], guard := none }
def oYL9 : Oper := { dst := some 19, op := Op.buildSlice 34 2 #[(0, Operand.tmp 15), (1, Operand.tmp 18)], type := 34, pos := "chain.go:56", after := #[{ on := 1, ground := Ground.data }, { on := 4, ground := Ground.data }], guard := none }
def oYL10 : Oper := { dst := some 20, op := Op.call { callee := Callee.value (Operand.func 19), args := #[Operand.tmp 19], argTypes := #[34] }, type := 22, pos := "chain.go:56", after := #[{ on := 5, ground := Ground.data }], guard := none }
def oYL11 : Oper := { dst := some 22, op := Op.call { callee := Callee.builtin Builtin.len, args := #[Operand.tmp 21], argTypes := #[22] }, type := 3, pos := "chain.go:57", after := #[{ on := 0, ground := Ground.data }], guard := none }
def oYL12 : Oper := { dst := some 24, op := Op.binOp BinOp.lss 3 (Operand.tmp 23) (Operand.tmp 22) 3, type := 0, pos := "chain.go:57", after := #[], guard := none }
def oYL13 : Oper := { dst := some 30, op := Op.indexAddr 22 (Operand.tmp 28) (Operand.tmp 29), type := 0, pos := "chain.go:58", after := #[{ on := 2, ground := Ground.data }, { on := 3, ground := Ground.data }], guard := none }
def oYL14 : Oper := { dst := some 31, op := Op.fieldAddr 55 (Operand.tmp 30) 1, type := 0, pos := "chain.go:58", after := #[{ on := 4, ground := Ground.data }], guard := none }
def oYL15 : Oper := { dst := some 32, op := Op.load 23 (Operand.tmp 31), type := 23, pos := "chain.go:58", after := #[{ on := 5, ground := Ground.data }], guard := none }
def oYL16 : Oper := { dst := some 33, op := Op.call { callee := Callee.value (Operand.func 20), args := #[Operand.tmp 32], argTypes := #[23] }, type := 23, pos := "chain.go:58", after := #[{ on := 6, ground := Ground.data }], guard := none }
def oYL17 : Oper := { dst := some 34, op := Op.indexAddr 22 (Operand.tmp 26) (Operand.tmp 27), type := 0, pos := "chain.go:58", after := #[{ on := 0, ground := Ground.data }, { on := 1, ground := Ground.data }, { on := 0, ground := Ground.phase }, { on := 1, ground := Ground.phase }, { on := 2, ground := Ground.phase }, { on := 3, ground := Ground.phase }, { on := 4, ground := Ground.phase }, { on := 5, ground := Ground.phase }, { on := 6, ground := Ground.phase }, { on := 7, ground := Ground.phase }], guard := none }
def oYL18 : Oper := { dst := some 35, op := Op.fieldAddr 55 (Operand.tmp 34) 1, type := 0, pos := "chain.go:58", after := #[{ on := 8, ground := Ground.data }, { on := 0, ground := Ground.phase }, { on := 1, ground := Ground.phase }, { on := 2, ground := Ground.phase }, { on := 3, ground := Ground.phase }, { on := 4, ground := Ground.phase }, { on := 5, ground := Ground.phase }, { on := 6, ground := Ground.phase }, { on := 7, ground := Ground.phase }], guard := none }
def oYL19 : Oper := { dst := none, op := Op.store 23 (Operand.tmp 35) (Operand.tmp 33), type := 0, pos := "chain.go:58", after := #[{ on := 9, ground := Ground.data }, { on := 7, ground := Ground.data }, { on := 7, ground := Ground.chain }, { on := 0, ground := Ground.phase }, { on := 1, ground := Ground.phase }, { on := 2, ground := Ground.phase }, { on := 3, ground := Ground.phase }, { on := 4, ground := Ground.phase }, { on := 5, ground := Ground.phase }, { on := 6, ground := Ground.phase }, { on := 7, ground := Ground.phase }], guard := none }
def oYL20 : Oper := { dst := some 36, op := Op.binOp BinOp.add 3 (Operand.tmp 23) (Operand.const (Value.int IntKind.i64 1)) 3, type := 3, pos := "chain.go:57", after := #[], guard := none }
def rFA0 : Array Oper := #[oYL0,
  { dst := some 4, op := Op.assign (Operand.const (Value.slice none 0 0)), type := 22, pos := "chain.go:54", after := #[], guard := none }]
def rFA1 : Array Oper := #[oYL1,
  oYL2,
  oYL3,
  { dst := some 11, op := Op.move (Operand.tmp 0), type := 22, pos := "chain.go:55", after := #[], guard := none },
  oYL4,
  oYL5,
  { dst := some 5, op := Op.assign (Operand.tmp 13), type := 3, pos := "chain.go:55", after := #[{ on := 5, ground := Ground.data }, { on := 0, ground := Ground.phase }, { on := 1, ground := Ground.phase }, { on := 2, ground := Ground.phase }, { on := 3, ground := Ground.phase }, { on := 4, ground := Ground.phase }, { on := 5, ground := Ground.phase }], guard := none }]
def rFA2 : Array Oper := #[oYL6,
  oYL7,
  { dst := some 16, op := Op.move (Operand.tmp 0), type := 22, pos := "chain.go:56", after := #[], guard := none },
  { dst := some 17, op := Op.move (Operand.tmp 5), type := 3, pos := "chain.go:56", after := #[], guard := none },
  oYL8,
  oYL9,
  oYL10,
  { dst := some 6, op := Op.assign (Operand.tmp 20), type := 22, pos := "chain.go:56", after := #[{ on := 6, ground := Ground.data }, { on := 6, ground := Ground.chain }, { on := 0, ground := Ground.phase }, { on := 1, ground := Ground.phase }, { on := 2, ground := Ground.phase }, { on := 3, ground := Ground.phase }, { on := 4, ground := Ground.phase }, { on := 5, ground := Ground.phase }, { on := 6, ground := Ground.phase }], guard := none }]
def rFA3 : Array Oper := #[{ dst := some 21, op := Op.move (Operand.tmp 6), type := 22, pos := "chain.go:57", after := #[], guard := none },
  oYL11,
  { dst := some 23, op := Op.move (Operand.const (Value.int IntKind.i64 0)), type := 3, pos := "chain.go:57", after := #[], guard := none }]
def rFA4 : Array Oper := #[oYL12]
def rFA5 : Array Oper := #[{ dst := some 25, op := Op.move (Operand.tmp 23), type := 3, pos := "chain.go:57", after := #[], guard := none },
  { dst := some 7, op := Op.assign (Operand.tmp 25), type := 3, pos := "chain.go:57", after := #[{ on := 0, ground := Ground.data }, { on := 0, ground := Ground.phase }], guard := none }]
def rFA6 : Array Oper := #[{ dst := some 26, op := Op.move (Operand.tmp 6), type := 22, pos := "chain.go:58", after := #[], guard := none },
  { dst := some 27, op := Op.move (Operand.tmp 7), type := 3, pos := "chain.go:58", after := #[], guard := none },
  { dst := some 28, op := Op.move (Operand.tmp 6), type := 22, pos := "chain.go:58", after := #[], guard := none },
  { dst := some 29, op := Op.move (Operand.tmp 7), type := 3, pos := "chain.go:58", after := #[], guard := none },
  oYL13,
  oYL14,
  oYL15,
  oYL16,
  oYL17,
  oYL18,
  oYL19]
def rFA7 : Array Oper := #[oYL20,
  { dst := some 23, op := Op.move (Operand.tmp 36), type := 3, pos := "chain.go:57", after := #[{ on := 0, ground := Ground.data }], guard := none }]
def rFA8 : Array Oper := #[{ dst := some 37, op := Op.move (Operand.tmp 6), type := 22, pos := "chain.go:60", after := #[], guard := none },
  { dst := some 4, op := Op.assign (Operand.tmp 37), type := 22, pos := "chain.go:60", after := #[{ on := 0, ground := Ground.data }, { on := 0, ground := Ground.phase }], guard := none }]
def cFA1 : Code := (Code.seq (Code.region 4 rFA4 false) (Code.seq (Code.cond (Operand.tmp 24) Code.skip (Code.exit 0)) (Code.seq (Code.block 1 (Code.seq (Code.region 5 rFA5 false) (Code.region 6 rFA6 false))) (Code.region 7 rFA7 false))))
def cFA : Code := (Code.seq (Code.region 0 rFA0 false) (Code.seq (Code.region 1 rFA1 false) (Code.seq (Code.region 2 rFA2 true) (Code.seq (Code.seq (Code.region 3 rFA3 false) (Code.block 0 (Code.loop cFA1))) (Code.seq (Code.region 8 rFA8 false) Code.ret)))))

theorem own_setN {w : World} {B g cap n i sz : Nat} {e : TypeId} {xs : List Value} (h : w.ownsRow B e sz (.slice (some ⟨g, 0, none⟩) n cap) n xs) (v : Value) :
    (w.setCell ⟨g, i, none⟩ v).ownsRow B e sz (.slice (some ⟨g, 0, none⟩) n cap) n (xs.set i v) := by
  obtain ⟨hl, hn | ⟨g2, c2, cur, hv, hb, hh, hnc, hcm, hcs, htk⟩⟩ := h
  · exact absurd hn.1 (by simp)
  · injection hv with e1 _ e3
    injection e1 with e1
    injection e1 with e1
    subst e1 e3
    refine ⟨by rw [List.length_set]; exact hl, Or.inr ⟨g, cap, cur.setIfInBounds i v, rfl, hb, heap_setCell_same w g i cur e v hh, hnc, hcm, by rw [Array.size_setIfInBounds]; exact hcs, ?_⟩⟩
    rw [Array.toList_setIfInBounds, List.take_set, htk]
theorem own_frozenN {w : World} {B g cap n i sz : Nat} {e : TypeId} {xs : List Value} (h : w.ownsRow B e sz (.slice (some ⟨g, 0, none⟩) n cap) n xs) : w.frozen? ⟨g, i, none⟩ = false := by
  obtain ⟨hl, hn | ⟨g2, c2, cur, hv, hb, hh, hnc, hcm, hcs, htk⟩⟩ := h
  · exact absurd hn.1 (by simp)
  · injection hv with e1 _ e3
    injection e1 with e1
    injection e1 with e1
    subst e1 e3
    exact frozen_of_row w g i _ _ hh
theorem btCs_set {N1 R : List Bt} {x : Bt} {na : Option Addr} {nb nc : Nat} : (btCs (N1 ++ x :: R)).set (N1.length * 2 + 1) (.slice na x.ns.length nc) = btCs ((N1 ++ [⟨x.pg, na, nb, 0, nc, x.ns⟩]) ++ R) := by
  rw [btCs_app, btCs_app, btCs_app, List.set_append_right _ _ (by rw [btCs_len]; omega), btCs_len, show N1.length * 2 + 1 - N1.length * 2 = 1 from by omega, List.append_assoc]
  rfl
/-- A copy of a batch's numbers. -/
theorem cloneB {x : Bt} (w : World) (hr : NRow w x.na x.nb x.no x.ns) (hl : x.ns.length ≤ 1048576) :
    Calls Try.prog 20 #[.slice x.na x.ns.length x.nc] w fun e w' => ∃ ao c, e = .returned (.slice ao x.ns.length c) ∧ w'.ownsRow w.heap.size 24 1 (.slice ao x.ns.length c) x.ns.length (ncells x.ns) ∧ Same w w' := by
  cases hna : x.na with
  | none =>
    have h0 : x.ns = [] := by
      by_cases e : x.ns = []
      · exact e
      · have := (hr.place e).1; rw [hna] at this; cases this
    rw [h0]
    exact (cloneNums_nil w).mono fun e w' ⟨h1, h2⟩ => ⟨none, 0, h1, own_nil, h2⟩
  | some a =>
    refine (cloneNums_core (news := ncells x.ns) w (by simp [ncells]) (fun j u hu => ?_) (fun u hu => by obtain ⟨y, _, rfl⟩ := List.mem_map.1 hu; rfl) hl).mono fun e w' ⟨v, h1, h2, h3⟩ => ?_
    · unfold ncells at hu
      rw [List.getElem?_map] at hu
      cases hx : x.ns[j]? with
      | none => rw [hx] at hu; cases hu
      | some y =>
        rw [hx] at hu
        cases hu
        have hp := (hr.place (by intro e; rw [e] at hx; simp at hx)).1
        rw [hna] at hp
        obtain rfl := Option.some.inj hp
        rw [Addr.add_mid]
        exact hr.cells j y hx
    · obtain ⟨ao, cc, rfl⟩ := own_shape h2
      exact ⟨ao, cc, h1, h2, h3⟩
/-- A batch whose numbers are new memory. -/
structure NewX (w W : World) (x : Bt) : Prop where
  no : x.no = 0
  own : W.ownsRow w.heap.size 24 1 (.slice x.na x.ns.length x.nc) x.ns.length (ncells x.ns)
  row : NRow W x.na x.nb 0 x.ns
theorem NewX.fr {w W W' : World} {S : Nat → Prop} {x : Bt} (h : NewX w W x) (f : Fr S W W') (hn : ∀ k, (Value.slice x.na x.ns.length x.nc).ownBlock = some k → ¬ S k) (hb : x.ns ≠ [] → ¬ S x.nb) : NewX w W' x := ⟨h.no, own_frameB h.own f hn, h.row.fr f hb⟩
theorem blk_of {ao : Option Addr} {n c : Nat} : (Value.slice ao n c).ownBlock = ao.map (·.block) := by cases ao <;> rfl
/-- While a chain's copy gets lists of its own: A the chain, N the batches that have theirs. -/
structure AC (w W : World) (A : List Bt) (ao : Option Addr) (cc i : Nat) (N : List Bt) : Prop where
  same : Same w W
  row : W.ownsRow w.heap.size 55 2 (.slice ao A.length cc) A.length (btCs (N ++ A.drop i))
  len : N.length = i
  key : N.map Bt.key = (A.take i).map Bt.key
  new_ : ∀ x ∈ N, NewX w W x
  dis : ∀ (j k : Nat) (x y : Bt) (b : Nat), N[j]? = some x → N[k]? = some y → x.na.map (·.block) = some b → y.na.map (·.block) = some b → j = k
theorem AC.next {w W W1 : World} {A N : List Bt} {ga cc i nb c1 : Nat} {a1 : Option Addr} {x : Bt} (h : AC w W A (some ⟨ga, 0, none⟩) cc i N) (hx : A[i]? = some x) (s : Same W W1) (o1 : W1.ownsRow W.heap.size 24 1 (.slice a1 x.ns.length c1) x.ns.length (ncells x.ns)) (hr : NRow W1 a1 nb 0 x.ns) :
    AC w (W1.setCell ⟨ga, i * 2 + 1, none⟩ (.slice a1 x.ns.length c1)) A (some ⟨ga, 0, none⟩) cc (i + 1) (N ++ [⟨x.pg, a1, nb, 0, c1, x.ns⟩]) := by
  have hlt : i < A.length := (List.getElem?_eq_some_iff.1 hx).1
  have hdrop : A.drop i = x :: A.drop (i + 1) := by
    have e : A[i] = x := by rw [List.getElem?_eq_getElem hlt] at hx; exact Option.some.inj hx
    rw [List.drop_eq_getElem_cons hlt, e]
  have r1 := own_frameB h.row s (fun _ _ f => f)
  have hga := own_ge r1
  have fr : Fr (fun k => k = ga) W1 (W1.setCell ⟨ga, i * 2 + 1, none⟩ (.slice a1 x.ns.length c1)) := Fr.setCell (S := fun k => k = ga) (Fr.refl _ W1) (p := ⟨ga, i * 2 + 1, none⟩) (fun _ => rfl) _
  have hcel : ∃ cs, W1.heap[ga]? = some (.cells cs 55 (0, 0)) := own_cellsB r1 rfl
  obtain ⟨cs, hcs⟩ := hcel
  have nety : ∀ (ao : Option Addr) (n c B : Nat) (xs : List Value), W1.ownsRow B 24 1 (.slice ao n c) n xs → ∀ k, (Value.slice ao n c).ownBlock = some k → ¬ k = ga := fun ao n c B xs ho k hk e => by
    subst e
    exact own_neT (own_base ho (Nat.zero_le _)) hcs (by decide) k hk rfl
  have cellty : ∀ b : Nat, ∀ ns : List Nat, ∀ a : Option Addr, NRow W1 a b 0 ns → ns ≠ [] → b ≠ ga ∨ b = ga := fun b ns a _ _ => by omega
  have nrne : ∀ (ao : Option Addr) (n c B nb : Nat) (ns : List Nat), W1.ownsRow B 24 1 (.slice ao n c) n (ncells ns) → NRow W1 ao nb 0 ns → ns ≠ [] → ¬ nb = ga := fun ao n c B nb ns ho hn he e => by
    have hp := (hn.place he).1
    exact nety ao n c B _ ho nb (by rw [blk_of, hp]; rfl) e
  refine ⟨Fr.trans (h.same.trans s) fr (fun k hk e => by have := hga.1; have : k = ga := e; simp only at *; omega), ?_, by rw [List.length_append, h.len]; rfl, ?_, fun y hy => ?_, fun j k y z b hj hk hb hc => ?_⟩
  · rw [hdrop] at r1
    have := own_setN (i := i * 2 + 1) r1 (.slice a1 x.ns.length c1)
    rw [← h.len, btCs_set (nb := nb)] at this
    rw [← h.len]
    exact this
  · rw [List.map_append, h.key, take_key hx]; rfl
  · rcases List.mem_append.1 hy with h1 | h1
    · have hn := h.new_ y h1
      have hn1 := hn.fr s (fun _ _ f => f) (fun _ f => f)
      exact hn1.fr fr (nety _ _ _ _ _ hn1.own) (nrne _ _ _ _ _ _ hn1.own hn1.row)
    · rw [List.mem_singleton] at h1
      subst h1
      refine ⟨rfl, own_frameB (own_base o1 h.same.size) fr (nety _ _ _ _ _ o1), hr.fr fr (nrne _ _ _ _ _ _ o1 hr)⟩
  · have old : ∀ (y : Bt) (b : Nat), y ∈ N → y.na.map (·.block) = some b → b < W.heap.size := fun y b hy hb => by
      have ho := (h.new_ y hy).own
      have hbk : (Value.slice y.na y.ns.length y.nc).ownBlock = some b := by rw [blk_of]; exact hb
      obtain ⟨cur, hcur⟩ := own_cellsB ho hbk
      exact lt_of_heap hcur
    have nw : ∀ b, a1.map (·.block) = some b → W.heap.size ≤ b := fun b hb => own_blk o1 b (by rw [blk_of]; exact hb)
    have bnd : ∀ (m : Nat) (y : Bt), (N ++ [⟨x.pg, a1, nb, 0, c1, x.ns⟩])[m]? = some y → (m < i ∧ N[m]? = some y) ∨ (m = i ∧ y = ⟨x.pg, a1, nb, 0, c1, x.ns⟩) := fun m y hm => by
      by_cases e : m < N.length
      · rw [List.getElem?_append_left e] at hm; exact Or.inl ⟨by rw [← h.len]; exact e, hm⟩
      · have hl := (List.getElem?_eq_some_iff.1 hm).1
        rw [List.length_append, List.length_singleton] at hl
        have em : m = N.length := by omega
        subst em
        rw [List.getElem?_append_right (Nat.le_refl _), Nat.sub_self] at hm
        exact Or.inr ⟨h.len, by simpa using hm.symm⟩
    rcases bnd j y hj with ⟨j1, j2⟩ | ⟨j1, rfl⟩ <;> rcases bnd k z hk with ⟨k1, k2⟩ | ⟨k1, rfl⟩
    · exact h.dis j k y z b j2 k2 hb hc
    · have := old y b (List.mem_of_getElem? j2) hb
      have := nw b hc
      omega
    · have := old z b (List.mem_of_getElem? k2) hc
      have := nw b hb
      omega
    · omega
structure IF2 (T : Nat) (sl : Value) (a : Act) : Prop where
  size : a.tmps.size = 38
  defers : a.defers = []
  s6 : a.eval (.tmp 6) = sl
  s22 : a.eval (.tmp 22) = .int .i64 (T : Int)
theorem IF2.keep {T : Nat} {sl : Value} {a0 a : Act} {env : List (Nat × Value)} (h : IF2 T sl a0) (f : Fe a0 env a) (h6 : look env 6 (a0.eval (.tmp 6)) = a0.eval (.tmp 6)) (h22 : look env 22 (a0.eval (.tmp 22)) = a0.eval (.tmp 22)) : IF2 T sl a :=
  ⟨f.size.trans h.size, f.defers.trans h.defers, ((f.at_ 6).trans h6).trans h.s6, ((f.at_ 22).trans h22).trans h.s22⟩
set_option maxRecDepth 100000 in
set_option maxHeartbeats 1000000 in
theorem faR {ga T cc i : Nat} {A N : List Bt} {x : Bt} {Q : Exit → Act → World → Prop} (a0 : Act) (w wr : World) (I0 : IF2 T (.slice (some ⟨ga, 0, none⟩) T cc) a0) (h23 : a0.eval (.tmp 23) = .int .i64 (i : Int)) (hc : AC w wr A (some ⟨ga, 0, none⟩) cc i N) (hx : A[i]? = some x) (hi : i < T) (hT : T ≤ 2000000) (hxr : NRow wr x.na x.nb x.no x.ns) (hxl : x.ns.length ≤ 1048576)
    (hcel : wr.cell? ⟨ga, i * 2 + 1, none⟩ = some (.slice x.na x.ns.length x.nc))
    (hQ : ∀ a W N', IF2 T (.slice (some ⟨ga, 0, none⟩) T cc) a → a.eval (.tmp 23) = .int .i64 ((i : Int) + 1) → AC w W A (some ⟨ga, 0, none⟩) cc (i + 1) N' → Q .normal a W) : cFA1.wp Try.prog Q a0 wr := by
  have hii : (i : Int) < (T : Int) := by omega
  have w7 : IntKind.i64.wrap ((i : Int) + 1) = (i : Int) + 1 := by rw [IntKind.wrap_i64]; omega
  have fa0_0 := Fe.refl a0
  unfold cFA1
  refine wp_seq ?_
  refine wp_region_list ?_
  unfold rFA4
  have r_a0_1 : (execOp a0.eval oYL12).run Try.prog (wr) = .ok (.value (.bool true)) (wr) := by
    unfold oYL12
    have e23 := (show a0.eval (.tmp 23) = .int .i64 (i : Int) from ((fa0_0.at_ 23).trans h23))
    have e22 := (show a0.eval (.tmp 22) = .int .i64 (T : Int) from ((fa0_0.at_ 22).trans I0.s22))
    clear fa0_0 hQ h23
    generalize a0.eval = ρ at *
    go_simp
  refine fa0_0.step 24 (.bool true) rfl (lb_ I0.size) (wanted_none rfl) r_a0_1 (fun a0_1 fa0_1 => ?_)
  clear r_a0_1
  clear fa0_0
  refine wpList_nil ?_
  change Code.wp _ _ _ _ _
  refine wp_seq (wp_cond_true (show a0_1.eval (.tmp 24) = .bool true from (fa0_1.at_ 24)) (wp_skip ?_))
  change Code.wp _ _ _ _ _
  refine wp_seq (wp_block (wp_seq ?_))
  refine wp_region_list ?_
  unfold rFA5
  refine fa0_1.move 25 (.int .i64 (i : Int)) _ (Or.inl rfl) rfl (lb_ I0.size) (wanted_none rfl) ((fa0_1.at_ 23).trans h23) (fun a0_2 fa0_2 => ?_)
  clear fa0_1
  refine fa0_2.move 7 (.int .i64 (i : Int)) _ (Or.inr rfl) rfl (lb_ I0.size) (wanted_none rfl) (fa0_2.at_ 25) (fun a0_3 fa0_3 => ?_)
  clear fa0_2
  refine wpList_nil ?_
  change Code.wp _ _ _ _ _
  refine wp_region_list ?_
  unfold rFA6
  refine fa0_3.move 26 (.slice (some ⟨ga, 0, none⟩) T cc) _ (Or.inl rfl) rfl (lb_ I0.size) (wanted_none rfl) ((fa0_3.at_ 6).trans I0.s6) (fun a0_4 fa0_4 => ?_)
  clear fa0_3
  refine fa0_4.move 27 (.int .i64 (i : Int)) _ (Or.inl rfl) rfl (lb_ I0.size) (wanted_none rfl) (fa0_4.at_ 7) (fun a0_5 fa0_5 => ?_)
  clear fa0_4
  refine fa0_5.move 28 (.slice (some ⟨ga, 0, none⟩) T cc) _ (Or.inl rfl) rfl (lb_ I0.size) (wanted_none rfl) ((fa0_5.at_ 6).trans I0.s6) (fun a0_6 fa0_6 => ?_)
  clear fa0_5
  refine fa0_6.move 29 (.int .i64 (i : Int)) _ (Or.inl rfl) rfl (lb_ I0.size) (wanted_none rfl) (fa0_6.at_ 7) (fun a0_7 fa0_7 => ?_)
  clear fa0_6
  have r_a0_8 : (execOp a0_7.eval oYL13).run Try.prog (wr) = .ok (.value (.pointer (some ⟨ga, i * 2, none⟩))) (wr) := by
    unfold oYL13
    have e28 := (show a0_7.eval (.tmp 28) = .slice (some ⟨ga, 0, none⟩) T cc from (fa0_7.at_ 28))
    have e29 := (show a0_7.eval (.tmp 29) = .int .i64 (i : Int) from (fa0_7.at_ 29))
    clear fa0_7 hQ h23
    generalize a0_7.eval = ρ at *
    go_simp
  refine fa0_7.step 30 (.pointer (some ⟨ga, i * 2, none⟩)) rfl (lb_ I0.size) (wanted_none rfl) r_a0_8 (fun a0_8 fa0_8 => ?_)
  clear r_a0_8
  clear fa0_7
  have r_a0_9 : (execOp a0_8.eval oYL14).run Try.prog (wr) = .ok (.value (.pointer (some ⟨ga, i * 2 + 1, none⟩))) (wr) := by
    unfold oYL14
    have e30 := (show a0_8.eval (.tmp 30) = .pointer (some ⟨ga, i * 2, none⟩) from (fa0_8.at_ 30))
    clear fa0_8 hQ h23
    generalize a0_8.eval = ρ at *
    go_simp
  refine fa0_8.step 31 (.pointer (some ⟨ga, i * 2 + 1, none⟩)) rfl (lb_ I0.size) (wanted_none rfl) r_a0_9 (fun a0_9 fa0_9 => ?_)
  clear r_a0_9
  clear fa0_8
  have r_a0_10 : (execOp a0_9.eval oYL15).run Try.prog (wr) = .ok (.value (.slice x.na x.ns.length x.nc)) (wr) := by
    unfold oYL15
    have e31 := (show a0_9.eval (.tmp 31) = .pointer (some ⟨ga, i * 2 + 1, none⟩) from (fa0_9.at_ 31))
    clear fa0_9 hQ h23
    generalize a0_9.eval = ρ at *
    go_simp
  refine fa0_9.step 32 (.slice x.na x.ns.length x.nc) rfl (lb_ I0.size) (wanted_none rfl) r_a0_10 (fun a0_10 fa0_10 => ?_)
  clear r_a0_10
  clear fa0_9
  have r_a0_11 : (execOp a0_10.eval oYL16).run Try.prog (wr) = .ok (.enter 20 #[.slice x.na x.ns.length x.nc]) (wr) := by
    unfold oYL16
    have kf : ∀ f, a0_10.eval (.func f) = .func (.func f) #[] #[] := fun _ => rfl
    have e32 := (show a0_10.eval (.tmp 32) = .slice x.na x.ns.length x.nc from (fa0_10.at_ 32))
    clear fa0_10 hQ h23
    generalize a0_10.eval = ρ at *
    go_simp
  refine fa0_10.call 33 rfl (lb_ I0.size) (wanted_none rfl) r_a0_11 (cloneB wr hxr hxl) (fun e W1 hR => ?_)
  obtain ⟨a1, c1, rfl, o1, s1⟩ := hR
  clear r_a0_11
  have d1 := s1.keep hcel
  have d2 : W1.frozen? ⟨ga, i * 2 + 1, none⟩ = false := own_frozenN (own_frameB hc.row s1 (fun _ _ f => f))
  obtain ⟨nb, hnb⟩ := own_nrow o1 rfl
  refine ⟨_, rfl, fun a0_11 fa0_11 => ?_⟩
  clear fa0_10
  have r_a0_12 : (execOp a0_11.eval oYL17).run Try.prog (W1) = .ok (.value (.pointer (some ⟨ga, i * 2, none⟩))) (W1) := by
    unfold oYL17
    have e26 := (show a0_11.eval (.tmp 26) = .slice (some ⟨ga, 0, none⟩) T cc from (fa0_11.at_ 26))
    have e27 := (show a0_11.eval (.tmp 27) = .int .i64 (i : Int) from (fa0_11.at_ 27))
    clear fa0_11 hQ h23
    generalize a0_11.eval = ρ at *
    go_simp
  refine fa0_11.step 34 (.pointer (some ⟨ga, i * 2, none⟩)) rfl (lb_ I0.size) (wanted_none rfl) r_a0_12 (fun a0_12 fa0_12 => ?_)
  clear r_a0_12
  clear fa0_11
  have r_a0_13 : (execOp a0_12.eval oYL18).run Try.prog (W1) = .ok (.value (.pointer (some ⟨ga, i * 2 + 1, none⟩))) (W1) := by
    unfold oYL18
    have e34 := (show a0_12.eval (.tmp 34) = .pointer (some ⟨ga, i * 2, none⟩) from (fa0_12.at_ 34))
    clear fa0_12 hQ h23
    generalize a0_12.eval = ρ at *
    go_simp
  refine fa0_12.step 35 (.pointer (some ⟨ga, i * 2 + 1, none⟩)) rfl (lb_ I0.size) (wanted_none rfl) r_a0_13 (fun a0_13 fa0_13 => ?_)
  clear r_a0_13
  clear fa0_12
  have r_a0_14 : (execOp a0_13.eval oYL19).run Try.prog (W1) = .ok .skip (W1.setCell ⟨ga, i * 2 + 1, none⟩ (.slice a1 x.ns.length c1)) := by
    unfold oYL19
    have e35 := (show a0_13.eval (.tmp 35) = .pointer (some ⟨ga, i * 2 + 1, none⟩) from (fa0_13.at_ 35))
    have e33 := (show a0_13.eval (.tmp 33) = .slice a1 x.ns.length c1 from (fa0_13.at_ 33))
    clear fa0_13 hQ h23
    generalize a0_13.eval = ρ at *
    go_simp
  refine fa0_13.store rfl (wanted_none rfl) r_a0_14 (fun a0_14 fa0_14 => ?_)
  clear r_a0_14
  clear fa0_13
  refine wpList_nil ?_
  change Code.wp _ _ _ _ _
  refine wp_region_list ?_
  unfold rFA7
  have r_a0_15 : (execOp a0_14.eval oYL20).run Try.prog (W1.setCell ⟨ga, i * 2 + 1, none⟩ (.slice a1 x.ns.length c1)) = .ok (.value (.int .i64 ((i : Int) + 1))) (W1.setCell ⟨ga, i * 2 + 1, none⟩ (.slice a1 x.ns.length c1)) := by
    unfold oYL20
    have kc : ∀ v, a0_14.eval (.const v) = v := fun _ => rfl
    have e23 := (show a0_14.eval (.tmp 23) = .int .i64 (i : Int) from ((fa0_14.at_ 23).trans h23))
    clear fa0_14 hQ h23
    generalize a0_14.eval = ρ at *
    go_simp
  refine fa0_14.step 36 (.int .i64 ((i : Int) + 1)) rfl (lb_ I0.size) (wanted_none rfl) r_a0_15 (fun a0_15 fa0_15 => ?_)
  clear r_a0_15
  clear fa0_14
  refine fa0_15.move 23 (.int .i64 ((i : Int) + 1)) _ (Or.inl rfl) rfl (lb_ I0.size) (wanted_none rfl) (fa0_15.at_ 36) (fun a0_16 fa0_16 => ?_)
  clear fa0_15
  refine wpList_nil ?_
  exact hQ a0_16 _ _ (I0.keep fa0_16 rfl rfl) (show a0_16.eval (.tmp 23) = .int .i64 ((i : Int) + 1) from (fa0_16.at_ 23)) (hc.next hx s1 o1 hnb)
set_option maxRecDepth 100000 in
theorem faE {T i : Nat} {sl : Value} {Q : Exit → Act → World → Prop} (a0 : Act) (wr : World) (I0 : IF2 T sl a0) (h23 : a0.eval (.tmp 23) = .int .i64 (i : Int)) (hi : T ≤ i) (hQ : ∀ a, IF2 T sl a → Q (.exit 0) a wr) : cFA1.wp Try.prog Q a0 wr := by
  have hii : ¬ (i : Int) < (T : Int) := by omega
  have hid : decide ((i : Int) < (T : Int)) = false := decide_eq_false hii
  clear hi
  have fa0_0 := Fe.refl a0
  unfold cFA1
  refine wp_seq ?_
  refine wp_region_list ?_
  unfold rFA4
  have r_a0_1 : (execOp a0.eval oYL12).run Try.prog (wr) = .ok (.value (.bool false)) (wr) := by
    unfold oYL12
    have e23 := (show a0.eval (.tmp 23) = .int .i64 (i : Int) from ((fa0_0.at_ 23).trans h23))
    have e22 := (show a0.eval (.tmp 22) = .int .i64 (T : Int) from ((fa0_0.at_ 22).trans I0.s22))
    clear fa0_0 hQ h23
    generalize a0.eval = ρ at *
    go_simp
  refine fa0_0.step 24 (.bool false) rfl (lb_ I0.size) (wanted_none rfl) r_a0_1 (fun a0_1 fa0_1 => ?_)
  clear r_a0_1
  clear fa0_0
  refine wpList_nil ?_
  change Code.wp _ _ _ _ _
  refine wp_seq (wp_cond_false (show a0_1.eval (.tmp 24) = .bool false from (fa0_1.at_ 24)) (wp_exit ?_))
  exact hQ a0_1 (I0.keep fa0_1 rfl rfl)
theorem faL {T cc : Nat} {ao : Option Addr} {A : List Bt} {Q : Exit → Act → World → Prop} (a0 : Act) (w wr : World) (I0 : IF2 T (.slice ao T cc) a0) (h23 : a0.eval (.tmp 23) = .int .i64 ((0 : Nat) : Int)) (hT : T = A.length) (hwt : wt A ≤ 1048576) (hc : AC w wr A ao cc 0 []) (hr : ∀ W, Same w W → ∀ x ∈ A, NRow W x.na x.nb x.no x.ns)
    (hQ : ∀ a W N, IF2 T (.slice ao T cc) a → AC w W A ao cc A.length N → Q (.exit 0) a W) : (Code.loop cFA1).wp Try.prog Q a0 wr := by
  have hT2 : T ≤ 1048576 := by rw [hT]; exact Nat.le_trans (wt_len A) hwt
  refine wp_loop (fun a W => IF2 T (.slice ao T cc) a ∧ ∃ (i : Nat) (N : List Bt), i ≤ T ∧ a.eval (.tmp 23) = .int .i64 (i : Int) ∧ AC w W A ao cc i N) (fun a _ => T - kOf a 23) ⟨I0, 0, [], Nat.zero_le _, h23, hc⟩ ?_
  rintro a W ⟨I1, i, N, hi, g23, hc1⟩
  by_cases hgo : i < T
  · obtain ⟨x, hx⟩ : ∃ x, A[i]? = some x := ⟨_, List.getElem?_eq_getElem (by rw [← hT]; exact hgo)⟩
    have hm := List.mem_of_getElem? hx
    have hxl : x.ns.length ≤ 1048576 := by have := wt_mem hm; omega
    obtain ⟨ga, rfl, _⟩ := own_some (own_base hc1.row (Nat.zero_le _)) (by rw [← hT]; omega)
    have hcel : W.cell? ⟨ga, i * 2 + 1, none⟩ = some (.slice x.na x.ns.length x.nc) := by
      have e : (N ++ A.drop i)[i]? = some x := by rw [List.getElem?_append_right (by rw [hc1.len]; exact Nat.le_refl _), hc1.len, Nat.sub_self, List.getElem?_drop, Nat.add_zero]; exact hx
      have := (btCs_at [] e).2
      rw [List.append_nil] at this
      exact own_cell (own_base hc1.row (Nat.zero_le _)) this
    refine faR a w W I1 g23 hc1 hx hgo (by omega) (hr W hc1.same x hm) hxl hcel (fun a' W3 N3 i3 h1 h2 => ?_)
    have h4 : a'.eval (.tmp 23) = .int .i64 ((i + 1 : Nat) : Int) := h1
    refine ⟨⟨i3, i + 1, N3, hgo, h4, h2⟩, ?_⟩
    show T - kOf a' 23 < T - kOf a 23
    rw [kOf_eq h4, kOf_eq g23]
    omega
  · obtain rfl : i = T := by omega
    exact faE a W I1 g23 (Nat.le_refl _) (fun a' i2 => hQ a' W N i2 (hT ▸ hc1))
theorem two_cells {W : World} {b : Nat} {x y : Part} {t : TypeId} (h : W.heap[b]? = some (.cells #[.slice x.ao x.n x.c, .slice y.ao y.n y.c] t (0, 0))) : ∀ j z, [x, y][j]? = some z → W.cell? ⟨b, j, none⟩ = some (.slice z.ao z.n z.c) := fun j z hz => by
  match j, hz with
  | 0, hz => obtain rfl := Option.some.inj hz; exact (cell_of_row _ _ _ _ _ _ h).trans rfl
  | 1, hz => obtain rfl := Option.some.inj hz; exact (cell_of_row _ _ _ _ _ _ h).trans rfl
theorem two_parts {W : World} {sz : Nat} {x y : Part} (hx : PartOk W sz x) (hy : PartOk W sz y) : ∀ z ∈ [x, y], PartOk W sz z := fun z hz => by
  simp only [List.mem_cons, List.not_mem_nil, or_false] at hz
  rcases hz with rfl | rfl
  · exact hx
  · exact hy
theorem two_n {x y : Part} : partsN [x, y] = x.n + y.n := by simp [partsN]
theorem bv_part {W : World} {g k c : Nat} {M : List Bt} (h : BvRow W (some ⟨g, 0, none⟩) g 0 M) (hk : k ≤ M.length) : PartOk W 2 ⟨some ⟨g, k * 2, none⟩, M.length - k, c, btCs (M.drop k)⟩ := by
  refine ⟨by rw [btCs_len, List.length_drop], fun e => (by cases e), fun a ha j u hu => ?_, fun u hu => ?_⟩
  · obtain rfl := Option.some.inj ha
    obtain ⟨m, r, hm, hr⟩ : ∃ m r, j = m * 2 + r ∧ r < 2 := ⟨j / 2, j % 2, by omega, by omega⟩
    subst hm
    have hjl := (List.getElem?_eq_some_iff.1 hu).1
    simp only [btCs_len, List.length_drop] at hjl
    obtain ⟨x, hx⟩ : ∃ x, M[k + m]? = some x := ⟨_, List.getElem?_eq_getElem (by omega)⟩
    have hx2 : (M.drop k)[m]? = some x := by rw [List.getElem?_drop]; exact hx
    obtain ⟨b1, b2⟩ := btCs_at [] hx2
    rw [List.append_nil] at b1 b2
    obtain ⟨c1, c2, _⟩ := h.cells (k + m) x hx
    rw [Addr.add_mid]
    have hr2 : r = 0 ∨ r = 1 := by omega
    rcases hr2 with rfl | rfl
    · have e : u = .int .u32 (x.pg : Int) := by have := hu.symm.trans b1; exact Option.some.inj this
      rw [e, ← c1]; congr 2; omega
    · have e : u = .slice x.na x.ns.length x.nc := by have := hu.symm.trans b2; exact Option.some.inj this
      rw [e, ← c2]; congr 2; omega
  · obtain ⟨x, _, hx⟩ := List.mem_flatMap.1 hu
    simp only [btC, List.mem_cons, List.not_mem_nil, or_false] at hx
    rcases hx with rfl | rfl <;> rfl
/-- A chain that After answered. -/
structure AftAt (w W : World) (ao : Option Addr) (cc : Nat) (N : List Bt) : Prop where
  row : W.ownsRow w.heap.size 55 2 (.slice ao N.length cc) N.length (btCs N)
  new_ : ∀ x ∈ N, NewX w W x
  dis : ∀ (j k : Nat) (x y : Bt) (b : Nat), N[j]? = some x → N[k]? = some y → x.na.map (·.block) = some b → y.na.map (·.block) = some b → j = k
theorem bv_mem {w : World} {pa : Option Addr} {pb po : Nat} {L : List Bt} (h : BvRow w pa pb po L) {x : Bt} (hx : x ∈ L) : BvOk w x := by
  obtain ⟨i, hi⟩ := List.mem_iff_getElem?.1 hx
  exact (h.cells i x hi).2.2
set_option maxRecDepth 100000 in
set_option maxHeartbeats 1000000 in
theorem fafter_calls {g n c k gl ln lc : Nat} {tr : Value} {op pgs : Int} {M ML : List Bt} (w : World) (hM : BvRow w (some ⟨g, 0, none⟩) g 0 M) (hML : BvRow w (some ⟨gl, 0, none⟩) gl 0 ML) (hn : n = M.length) (hln : ln = ML.length) (hnc : n < c) (hk : (k : Int) = min (max op 0) (n : Int)) (hwt : wt (ML ++ M.drop k) ≤ 1048576) :
    Calls Try.prog 8 #[.slice (some ⟨g, 0, none⟩) n c, .agg #[tr, .slice (some ⟨gl, 0, none⟩) ln lc, .int .i64 op, .int .u32 pgs]] w fun e w' => ∃ ao cc N, e = .returned (.slice ao N.length cc) ∧ AftAt w w' ao cc N ∧ N.map Bt.key = (ML ++ M.drop k).map Bt.key ∧ Same w w' := by
  have hkn : k ≤ n := by omega
  have hN2 : ln + (n - k) ≤ 1048576 := by
    have := wt_len (ML ++ M.drop k)
    rw [List.length_append, List.length_drop, ← hln, ← hn] at this
    omega
  have hp1 : ∀ W, Same w W → PartOk W 2 ⟨some ⟨gl, 0, none⟩, ln, lc, btCs ML⟩ := fun W s => by
    have := bv_part (k := 0) (c := lc) (hML.same s) (Nat.zero_le _)
    rw [Nat.sub_zero, List.drop_zero, ← hln] at this
    exact this
  have hp2 : ∀ W, Same w W → PartOk W 2 ⟨some ⟨g, k * 2, none⟩, n - k, c - k, btCs (M.drop k)⟩ := fun W s => by
    have := bv_part (k := k) (c := c - k) (hM.same s) (by rw [← hn]; exact hkn)
    rw [← hn] at this
    exact this
  have hrow : ∀ x ∈ ML ++ M.drop k, NRow w x.na x.nb x.no x.ns := fun x hx => by
    rcases List.mem_append.1 hx with h | h
    · exact (bv_mem hML h).row
    · exact (bv_mem hM (List.mem_of_mem_drop h)).row
  have hki : (k : Int) ≤ (n : Int) := by omega
  have hkci : ¬ c = k := by omega
  have hk0 : ¬ (k : Int) < 0 := by omega
  have hkc2 : ¬ c < k := by omega
  have hnci : (n : Int) ≤ (c : Int) := by omega
  refine calls_abs (c := cFA) Try.func8 (by kernel_rfl) 38 rfl (by simp) (fun a0 hsz hd ha => ?_)
  have fa0_0 := Fe.refl a0
  unfold cFA
  refine wp_seq ?_
  refine wp_region_list ?_
  unfold rFA0
  have r_a0_1 : (execOp a0.eval oYL0).run Try.prog (w) = .ok (.value (.pointer (some ⟨w.heap.size, 0, none⟩))) (w.alloc (.cells #[tr, .slice (some ⟨gl, 0, none⟩) ln lc, .int .i64 op, .int .u32 pgs] 26)) := by
    unfold oYL0
    have e1 := (show a0.eval (.tmp 1) = .agg #[tr, .slice (some ⟨gl, 0, none⟩) ln lc, .int .i64 op, .int .u32 pgs] from ((fa0_0.at_ 1).trans (ha 1 _ rfl)))
    clear fa0_0 ha
    generalize a0.eval = ρ at *
    go_simp
  refine fa0_0.stepW 3 (.pointer (some ⟨w.heap.size, 0, none⟩)) rfl (lb_ hsz) (wanted_none rfl) r_a0_1 (fun a0_1 fa0_1 => ?_)
  clear r_a0_1
  clear fa0_0
  refine fa0_1.move 4 (.slice none 0 0) _ (Or.inr rfl) rfl (lb_ hsz) (wanted_none rfl) rfl (fun a0_2 fa0_2 => ?_)
  clear fa0_1
  refine wpList_nil ?_
  obtain ⟨V, hV⟩ : ∃ V, V = w.alloc (.cells #[tr, .slice (some ⟨gl, 0, none⟩) ln lc, .int .i64 op, .int .u32 pgs] 26) := ⟨_, rfl⟩
  rw [← hV]
  have sV : Same w V := by rw [hV]; exact (Fr.refl _ w).alloc _
  have hVr : V.heap[w.heap.size]? = some (.cells #[tr, .slice (some ⟨gl, 0, none⟩) ln lc, .int .i64 op, .int .u32 pgs] 26 (0, 0)) := by rw [hV]; exact heap_alloc_new w _
  have c1 : V.cell? ⟨w.heap.size, 1, none⟩ = some (.slice (some ⟨gl, 0, none⟩) ln lc) := (cell_of_row _ _ _ _ _ _ hVr).trans rfl
  have c2 : V.cell? ⟨w.heap.size, 2, none⟩ = some (.int .i64 op) := (cell_of_row _ _ _ _ _ _ hVr).trans rfl
  change Code.wp _ _ _ _ _
  refine wp_seq ?_
  refine wp_region_list ?_
  unfold rFA1
  have r_a0_3 : (execOp a0_2.eval oYL1).run Try.prog (V) = .ok (.value (.pointer (some ⟨w.heap.size, 2, none⟩))) (V) := by
    unfold oYL1
    have e3 := (show a0_2.eval (.tmp 3) = .pointer (some ⟨w.heap.size, 0, none⟩) from (fa0_2.at_ 3))
    clear fa0_2 ha
    generalize a0_2.eval = ρ at *
    go_simp
  refine fa0_2.step 8 (.pointer (some ⟨w.heap.size, 2, none⟩)) rfl (lb_ hsz) (wanted_none rfl) r_a0_3 (fun a0_3 fa0_3 => ?_)
  clear r_a0_3
  clear fa0_2
  have r_a0_4 : (execOp a0_3.eval oYL2).run Try.prog (V) = .ok (.value (.int .i64 op)) (V) := by
    unfold oYL2
    have e8 := (show a0_3.eval (.tmp 8) = .pointer (some ⟨w.heap.size, 2, none⟩) from (fa0_3.at_ 8))
    clear fa0_3 ha
    generalize a0_3.eval = ρ at *
    go_simp
  refine fa0_3.step 9 (.int .i64 op) rfl (lb_ hsz) (wanted_none rfl) r_a0_4 (fun a0_4 fa0_4 => ?_)
  clear r_a0_4
  clear fa0_3
  have r_a0_5 : (execOp a0_4.eval oYL3).run Try.prog (V) = .ok (.value (.int .i64 (max op 0))) (V) := by
    unfold oYL3
    have kc : ∀ v, a0_4.eval (.const v) = v := fun _ => rfl
    have e9 := (show a0_4.eval (.tmp 9) = .int .i64 op from (fa0_4.at_ 9))
    clear fa0_4 ha
    generalize a0_4.eval = ρ at *
    go_simp
  refine fa0_4.step 10 (.int .i64 (max op 0)) rfl (lb_ hsz) (wanted_none rfl) r_a0_5 (fun a0_5 fa0_5 => ?_)
  clear r_a0_5
  clear fa0_4
  refine fa0_5.move 11 (.slice (some ⟨g, 0, none⟩) n c) _ (Or.inl rfl) rfl (lb_ hsz) (wanted_none rfl) ((fa0_5.at_ 0).trans (ha 0 _ rfl)) (fun a0_6 fa0_6 => ?_)
  clear fa0_5
  have r_a0_7 : (execOp a0_6.eval oYL4).run Try.prog (V) = .ok (.value (.int .i64 (n : Int))) (V) := by
    unfold oYL4
    have e11 := (show a0_6.eval (.tmp 11) = .slice (some ⟨g, 0, none⟩) n c from (fa0_6.at_ 11))
    clear fa0_6 ha
    generalize a0_6.eval = ρ at *
    go_simp
  refine fa0_6.step 12 (.int .i64 (n : Int)) rfl (lb_ hsz) (wanted_none rfl) r_a0_7 (fun a0_7 fa0_7 => ?_)
  clear r_a0_7
  clear fa0_6
  have r_a0_8 : (execOp a0_7.eval oYL5).run Try.prog (V) = .ok (.value (.int .i64 (k : Int))) (V) := by
    unfold oYL5
    have e10 := (show a0_7.eval (.tmp 10) = .int .i64 (max op 0) from (fa0_7.at_ 10))
    have e12 := (show a0_7.eval (.tmp 12) = .int .i64 (n : Int) from (fa0_7.at_ 12))
    clear fa0_7 ha
    generalize a0_7.eval = ρ at *
    go_simp
  refine fa0_7.step 13 (.int .i64 (k : Int)) rfl (lb_ hsz) (wanted_none rfl) r_a0_8 (fun a0_8 fa0_8 => ?_)
  clear r_a0_8
  clear fa0_7
  refine fa0_8.move 5 (.int .i64 (k : Int)) _ (Or.inr rfl) rfl (lb_ hsz) (wanted_none rfl) (fa0_8.at_ 13) (fun a0_9 fa0_9 => ?_)
  clear fa0_8
  refine wpList_nil ?_
  change Code.wp _ _ _ _ _
  refine wp_seq ?_
  have dd : Same V V.drew := (Fr.refl (fun _ => False) V).drew
  refine wp_region_held_drew (ops := rFA2) (S := fun Z => Same V Z) (by kernel_rfl) (dd) (fun hS9 => ?_)
  have r_a0_10 : ∀ Z, (fun Z => Same V Z) Z → (execOp a0_9.eval oYL6).run Try.prog Z = .ok (.value (.pointer (some ⟨w.heap.size, 1, none⟩))) Z := fun Z hZ => by
    unfold oYL6
    have e3 := (show a0_9.eval (.tmp 3) = .pointer (some ⟨w.heap.size, 0, none⟩) from (fa0_9.at_ 3))
    clear fa0_9 ha hk hn hln
    generalize a0_9.eval = ρ at *
    go_simp
  refine fa0_9.take 0 14 (.pointer (some ⟨w.heap.size, 1, none⟩)) rfl (by kernel_rfl) (by kernel_rfl) (by kernel_rfl) (fun _ _ _ h => h) rfl (lb_ hsz) (wanted_none rfl) r_a0_10 hS9 (fun a0_10 fa0_10 => ?_)
  clear r_a0_10
  clear fa0_9
  have r_a0_11 : ∀ Z, (fun Z => Same V Z) Z → (execOp a0_10.eval oYL7).run Try.prog Z = .ok (.value (.slice (some ⟨gl, 0, none⟩) ln lc)) Z := fun Z hZ => by
    unfold oYL7
    have c3 := hZ.keep c1
    have e14 := (show a0_10.eval (.tmp 14) = .pointer (some ⟨w.heap.size, 1, none⟩) from (fa0_10.at_ 14))
    clear fa0_10 ha hk hn hln
    generalize a0_10.eval = ρ at *
    go_simp
  refine fa0_10.take 1 15 (.slice (some ⟨gl, 0, none⟩) ln lc) rfl (by kernel_rfl) (by kernel_rfl) (by kernel_rfl) (fun _ _ _ h => h) rfl (lb_ hsz) (wanted_none rfl) r_a0_11 hS9 (fun a0_11 fa0_11 => ?_)
  clear r_a0_11
  clear fa0_10
  refine fa0_11.takeMove 2 16 (.slice (some ⟨g, 0, none⟩) n c) _ (Or.inl rfl) rfl (by kernel_rfl) (by kernel_rfl) (by kernel_rfl) (fun _ _ _ h => h) rfl (lb_ hsz) (wanted_none rfl) ((fa0_11.at_ 0).trans (ha 0 _ rfl)) hS9 (fun a0_12 fa0_12 => ?_)
  clear fa0_11
  refine fa0_12.takeMove 3 17 (.int .i64 (k : Int)) _ (Or.inl rfl) rfl (by kernel_rfl) (by kernel_rfl) (by kernel_rfl) (fun _ _ _ h => h) rfl (lb_ hsz) (wanted_none rfl) (fa0_12.at_ 5) hS9 (fun a0_13 fa0_13 => ?_)
  clear fa0_12
  have r_a0_14 : ∀ Z, (fun Z => Same V Z) Z → (execOp a0_13.eval oYL8).run Try.prog Z = .ok (.value (.slice (some ⟨g, k * 2, none⟩) (n - k) (c - k))) Z := fun Z hZ => by
    unfold oYL8
    have e16 := (show a0_13.eval (.tmp 16) = .slice (some ⟨g, 0, none⟩) n c from (fa0_13.at_ 16))
    have e17 := (show a0_13.eval (.tmp 17) = .int .i64 (k : Int) from (fa0_13.at_ 17))
    clear fa0_13 ha hk hn hln
    generalize a0_13.eval = ρ at *
    go_simp
  refine fa0_13.take 4 18 (.slice (some ⟨g, k * 2, none⟩) (n - k) (c - k)) rfl (by kernel_rfl) (by kernel_rfl) (by kernel_rfl) (fun _ _ _ h => h) rfl (lb_ hsz) (wanted_none rfl) r_a0_14 hS9 (fun a0_14 fa0_14 => ?_)
  clear r_a0_14
  clear fa0_13
  have r_a0_15 : (execOp a0_14.eval oYL9).run Try.prog (V.drew) = .ok (.value (.slice (some ⟨V.heap.size, 0, none⟩) 2 2)) (V.drew.alloc (.cells #[.slice (some ⟨gl, 0, none⟩) ln lc, .slice (some ⟨g, k * 2, none⟩) (n - k) (c - k)] 22)) := by
    unfold oYL9
    have e15 := (show a0_14.eval (.tmp 15) = .slice (some ⟨gl, 0, none⟩) ln lc from (fa0_14.at_ 15))
    have e18 := (show a0_14.eval (.tmp 18) = .slice (some ⟨g, k * 2, none⟩) (n - k) (c - k) from (fa0_14.at_ 18))
    clear fa0_14 ha hk hn hln
    generalize a0_14.eval = ρ at *
    go_simp
  have hS15 : (fun Z => Same V Z) (V.drew.alloc (.cells #[.slice (some ⟨gl, 0, none⟩) ln lc, .slice (some ⟨g, k * 2, none⟩) (n - k) (c - k)] 22)) := dd.trans ((Fr.refl _ V.drew).alloc _)
  refine fa0_14.one 5 19 (.slice (some ⟨V.heap.size, 0, none⟩) 2 2) (by kernel_rfl) rfl rfl (lb_ hsz) (wanted_none rfl) r_a0_15 hS15 (fun a0_15 fa0_15 => ?_)
  clear r_a0_15
  obtain ⟨V2, hV2⟩ : ∃ V2, V2 = V.drew.alloc (.cells #[.slice (some ⟨gl, 0, none⟩) ln lc, .slice (some ⟨g, k * 2, none⟩) (n - k) (c - k)] 22) := ⟨_, rfl⟩
  rw [← hV2]
  have sVV : Same V V2 := by rw [hV2]; exact dd.trans ((Fr.refl _ V.drew).alloc _)
  have s2 : Same w V2 := by rw [hV2]; exact sV.trans (dd.trans ((Fr.refl _ V.drew).alloc _))
  have hh2 : V2.heap[V.heap.size]? = some (.cells #[.slice (some ⟨gl, 0, none⟩) ln lc, .slice (some ⟨g, k * 2, none⟩) (n - k) (c - k)] 22 (0, 0)) := by rw [hV2]; exact heap_alloc_new V.drew _
  clear fa0_14
  have r_a0_16 : (execOp a0_15.eval oYL10).run Try.prog (V2) = .ok (.enter 19 #[.slice (some ⟨V.heap.size, 0, none⟩) 2 2]) (V2) := by
    unfold oYL10
    have kf : ∀ f, a0_15.eval (.func f) = .func (.func f) #[] #[] := fun _ => rfl
    have e19 := (show a0_15.eval (.tmp 19) = .slice (some ⟨V.heap.size, 0, none⟩) 2 2 from (fa0_15.at_ 19))
    clear fa0_15 ha hk hn hln
    generalize a0_15.eval = ρ at *
    go_simp
  refine fa0_15.oneCall 6 20 (by kernel_rfl) rfl rfl (lb_ hsz) (wanted_none rfl) r_a0_16 (concatBats (gb := V.heap.size) (cc := 2) (L := [⟨some ⟨gl, 0, none⟩, ln, lc, btCs ML⟩, ⟨some ⟨g, k * 2, none⟩, n - k, c - k, btCs (M.drop k)⟩]) V2 (two_cells hh2) (two_parts (hp1 _ s2) (hp2 _ s2)) (by show (2 : Nat) ≤ 1048576; decide) (by rw [two_n]; omega)) (fun e W3 hR => ?_)
  obtain ⟨ao, cc, rfl, o3, s3⟩ := hR
  clear r_a0_16
  have hS16 : (fun Z => Same V Z) W3 := sVV.trans s3
  refine ⟨_, rfl, hS16, fun a0_16 fa0_16 => ?_⟩
  clear fa0_15
  refine fa0_16.takeMove 7 6 (.slice ao (ln + (n - k)) cc) _ (Or.inr rfl) rfl (by kernel_rfl) (by kernel_rfl) (by kernel_rfl) (fun _ _ _ h => h) rfl (lb_ hsz) (wanted_none rfl) (fa0_16.at_ 20) hS16 (fun a0_17 fa0_17 => ?_)
  clear fa0_16
  refine wpAnyH_done (by kernel_rfl) ?_ _
  have hAl : (ML ++ M.drop k).length = ln + (n - k) := by rw [List.length_append, List.length_drop, hln, hn]
  have hc0 : AC w W3 (ML ++ M.drop k) ao cc 0 [] := ⟨s2.trans s3, by rw [hAl, List.drop_zero, List.nil_append, btCs_app]; have o4 := own_base o3 s2.size; simp only [partsC, partsN, List.flatMap_cons, List.flatMap_nil, List.append_nil, List.map_cons, List.map_nil, List.sum_cons, List.sum_nil, Nat.add_zero] at o4; exact o4, rfl, rfl, fun x hx => (by cases hx), fun j k x y b hj => (by simp at hj)⟩
  change Code.wp _ _ _ _ _
  refine wp_seq (wp_seq ?_)
  refine wp_region_list ?_
  unfold rFA3
  refine fa0_17.move 21 (.slice ao (ln + (n - k)) cc) _ (Or.inl rfl) rfl (lb_ hsz) (wanted_none rfl) (fa0_17.at_ 6) (fun a0_18 fa0_18 => ?_)
  clear fa0_17
  have r_a0_19 : (execOp a0_18.eval oYL11).run Try.prog (W3) = .ok (.value (.int .i64 ((ln + (n - k) : Nat) : Int))) (W3) := by
    unfold oYL11
    have e21 := (show a0_18.eval (.tmp 21) = .slice ao (ln + (n - k)) cc from (fa0_18.at_ 21))
    clear fa0_18 ha hc0 hAl o3 hk hn hln
    generalize a0_18.eval = ρ at *
    go_simp
  refine fa0_18.step 22 (.int .i64 ((ln + (n - k) : Nat) : Int)) rfl (lb_ hsz) (wanted_none rfl) r_a0_19 (fun a0_19 fa0_19 => ?_)
  clear r_a0_19
  clear fa0_18
  refine fa0_19.move 23 (.int .i64 ((0 : Nat) : Int)) _ (Or.inl rfl) rfl (lb_ hsz) (wanted_none rfl) rfl (fun a0_20 fa0_20 => ?_)
  clear fa0_19
  refine wpList_nil ?_
  change Code.wp _ _ _ _ _
  refine wp_block ?_
  refine faL (A := ML ++ M.drop k) a0_20 w W3 ⟨fa0_20.size.trans hsz, fa0_20.defers.trans hd, (show a0_20.eval (.tmp 6) = .slice ao (ln + (n - k)) cc from (fa0_20.at_ 6)), (show a0_20.eval (.tmp 22) = .int .i64 ((ln + (n - k) : Nat) : Int) from (fa0_20.at_ 22))⟩ (show a0_20.eval (.tmp 23) = .int .i64 ((0 : Nat) : Int) from (fa0_20.at_ 23)) hAl.symm hwt hc0 (fun W s x hx => (hrow x hx).same s) (fun b W N i1 hcN => ?_)
  change Code.wp _ _ _ _ _
  refine wp_seq ?_
  have fb_0 := Fe.refl b
  refine wp_region_list ?_
  unfold rFA8
  refine fb_0.move 37 (.slice ao (ln + (n - k)) cc) _ (Or.inl rfl) rfl (lb_ i1.size) (wanted_none rfl) ((fb_0.at_ 6).trans i1.s6) (fun b_1 fb_1 => ?_)
  clear fb_0
  refine fb_1.move 4 (.slice ao (ln + (n - k)) cc) _ (Or.inr rfl) rfl (lb_ i1.size) (wanted_none rfl) (fb_1.at_ 37) (fun b_2 fb_2 => ?_)
  clear fb_1
  refine wpList_nil ?_
  change Code.wp _ _ _ _ _
  refine wp_ret ?_
  have hNl : N.length = ln + (n - k) := by rw [hcN.len, hAl]
  refine ret_abs rfl (fb_2.defers.trans i1.defers) (show b_2.eval (.tmp 4) = .slice ao (ln + (n - k)) cc from (fb_2.at_ 4)) ⟨ao, cc, N, by rw [hNl], ⟨?_, hcN.new_, hcN.dis⟩, ?_, hcN.same⟩
  · have := hcN.row
    rw [List.drop_length, List.append_nil, hAl] at this
    rw [hNl]
    exact this
  · rw [hcN.key, List.take_length]
end Go.Proofs.Ytneopkhkkfckcaa
