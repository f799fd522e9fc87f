/- free: the document's Read. -/
import Derived.Test.YtajbifblbmlffaaQE
namespace Go.Proofs.Ytajbifblbmlffaa
open Go.RowKit Go.Maps

def oQG0 : Oper := { dst := some 4, op := .box 23 (.tmp 0), type := 0, pos := "ref.go:317", after := #[], guard := none }
def oQG1 : Oper := { dst := some 19, op := .binOp .neq 28 (.tmp 18) (.const (.int .u32 0)) 28, type := 4, pos := "ref.go:319", after := #[{ on := 0, ground := .data }], guard := none }
def oQG2 : Oper := { dst := some 23, op := .call { callee := .value (.func 23), args := #[.tmp 21, .tmp 22], argTypes := #[24, 28] }, type := 77, pos := "ref.go:320", after := #[{ on := 0, ground := .data }, { on := 1, ground := .data }], guard := none }
def oQG3 : Oper := { dst := some 24, op := .extract (.tmp 20) 0, type := 76, pos := "ref.go:320", after := #[{ on := 3, ground := .data }], guard := none }
def oQG4 : Oper := { dst := some 25, op := .extract (.tmp 20) 1, type := 4, pos := "ref.go:320", after := #[{ on := 3, ground := .data }, { on := 7, ground := .gcOnly .lateStores }], guard := none }
def oQG5 : Oper := { dst := some 12, op := .alloc 76, type := 0, pos := "ref.go:320", after := #[], guard := none }
def oQG6 : Oper := { dst := none, op := .store 76 (.tmp 12) (.tmp 24), type := 0, pos := "ref.go:320", after := #[{ on := 6, ground := .data }, { on := 4, ground := .data }, { on := 2, ground := .chain }, { on := 0, ground := .phase }, { on := 1, ground := .phase }, { on := 2, ground := .phase }, { on := 3, ground := .phase }, { on := 4, ground := .phase }, { on := 5, ground := .textOnly .lateStores }, { on := 6, ground := .phase }], guard := none }
def oQG7 : Oper := { dst := some 27, op := .unOp .not 4 (.tmp 26), type := 4, pos := "ref.go:321", after := #[{ on := 0, ground := .data }], guard := none }
def oQG8 : Oper := { dst := some 29, op := .load 23 (.tmp 4), type := 23, pos := "ref.go:324", after := #[], guard := none }
def oQG9 : Oper := { dst := some 30, op := .fieldAddr 76 (.tmp 12) 3, type := 0, pos := "ref.go:324", after := #[], guard := none }
def oQG10 : Oper := { dst := some 31, op := .load 9 (.tmp 30), type := 9, pos := "ref.go:324", after := #[{ on := 1, ground := .data }], guard := none }
def oQG11 : Oper := { dst := some 32, op := .call { callee := .value (.func 24), args := #[.tmp 29, .tmp 31], argTypes := #[23, 9] }, type := 79, pos := "ref.go:324", after := #[{ on := 0, ground := .data }, { on := 2, ground := .data }], guard := none }
def oQG12 : Oper := { dst := some 33, op := .extract (.tmp 28) 0, type := 28, pos := "ref.go:324", after := #[{ on := 4, ground := .data }], guard := none }
def oQG13 : Oper := { dst := some 34, op := .extract (.tmp 28) 1, type := 51, pos := "ref.go:324", after := #[{ on := 4, ground := .data }, { on := 8, ground := .gcOnly .lateStores }], guard := none }
def oQG14 : Oper := { dst := some 35, op := .extract (.tmp 28) 2, type := 3, pos := "ref.go:324", after := #[{ on := 4, ground := .data }, { on := 9, ground := .gcOnly .lateStores }], guard := none }
def oQG15 : Oper := { dst := some 36, op := .fieldAddr 76 (.tmp 12) 0, type := 0, pos := "ref.go:325", after := #[], guard := none }
def oQG16 : Oper := { dst := some 37, op := .load 73 (.tmp 36), type := 73, pos := "ref.go:325", after := #[{ on := 0, ground := .data }], guard := none }
def oQG17 : Oper := { dst := some 38, op := .convert 73 3 (.tmp 37), type := 3, pos := "ref.go:325", after := #[{ on := 1, ground := .data }], guard := none }
def oQG18 : Oper := { dst := some 39, op := .binOp .neq 3 (.tmp 38) (.const (.int .i64 3)) 3, type := 4, pos := "ref.go:325", after := #[{ on := 2, ground := .data }], guard := none }
def oQG19 : Oper := { dst := some 42, op := .binOp .neq 3 (.tmp 41) (.const (.int .i64 0)) 3, type := 4, pos := "ref.go:325", after := #[{ on := 5, ground := .data }, { on := 4, ground := .guard }], guard := some (4, false) }
def oQG20 : Oper := { dst := some 43, op := .pick (.tmp 40) (.const (.bool true)) (.tmp 42), type := 4, pos := "ref.go:325", after := #[{ on := 4, ground := .data }, { on := 6, ground := .data }], guard := none }
def oQG21 : Oper := { dst := some 47, op := .build 53 #[(0, .tmp 45), (1, .tmp 46)], type := 53, pos := "ref.go:328", after := #[{ on := 1, ground := .data }, { on := 2, ground := .data }], guard := none }
def oQG22 : Oper := { dst := some 48, op := .buildSlice 30 1 #[(0, .tmp 47)], type := 30, pos := "ref.go:328", after := #[{ on := 3, ground := .data }], guard := none }
def oQG23 : Oper := { dst := some 49, op := .call { callee := .builtin .append, args := #[.tmp 44, .tmp 48], argTypes := #[30, 30] }, type := 30, pos := "ref.go:328", after := #[{ on := 0, ground := .data }, { on := 4, ground := .data }], guard := none }
def oQG24 : Oper := { dst := some 50, op := .load 23 (.tmp 4), type := 23, pos := "ref.go:329", after := #[], guard := none }
def oQG25 : Oper := { dst := some 53, op := .call { callee := .value (.func 22), args := #[.tmp 50, .tmp 51, .tmp 52], argTypes := #[23, 30, 28] }, type := 4, pos := "ref.go:329", after := #[{ on := 0, ground := .data }, { on := 1, ground := .data }, { on := 2, ground := .data }], guard := none }
def oQG26 : Oper := { dst := some 54, op := .unOp .not 4 (.tmp 53), type := 4, pos := "ref.go:329", after := #[{ on := 3, ground := .data }], guard := none }
def rDD0 : Array Oper := #[oQG0,
  { dst := some 8, op := .assign (.const (.slice none 0 0)), type := 30, pos := "ref.go:317", after := #[], guard := none },
  { dst := some 9, op := .assign (.const (.int .i64 0)), type := 3, pos := "ref.go:317", after := #[{ on := 1, ground := .chain }], guard := none }]
def rDD1 : Array Oper := #[{ dst := some 10, op := .assign (.const (.slice none 0 0)), type := 30, pos := "ref.go:318", after := #[], guard := none }]
def rDD2 : Array Oper := #[{ dst := some 17, op := .move (.tmp 2), type := 28, pos := "ref.go:319", after := #[], guard := none },
  { dst := some 11, op := .assign (.tmp 17), type := 28, pos := "ref.go:319", after := #[{ on := 0, ground := .data }, { on := 0, ground := .phase }], guard := none }]
def rDD3 : Array Oper := #[{ dst := some 18, op := .move (.tmp 11), type := 28, pos := "ref.go:319", after := #[], guard := none },
  oQG1]
def rDD4 : Array Oper := #[{ dst := some 21, op := .move (.tmp 1), type := 24, pos := "ref.go:320", after := #[], guard := none },
  { dst := some 22, op := .move (.tmp 11), type := 28, pos := "ref.go:320", after := #[], guard := none },
  oQG2,
  { dst := some 20, op := .move (.tmp 23), type := 77, pos := "ref.go:320", after := #[{ on := 2, ground := .data }], guard := none },
  oQG3,
  oQG4,
  oQG5,
  oQG6,
  { dst := some 13, op := .assign (.tmp 25), type := 4, pos := "ref.go:320", after := #[{ on := 5, ground := .data }, { on := 7, ground := .chain }, { on := 0, ground := .phase }, { on := 1, ground := .phase }, { on := 2, ground := .phase }, { on := 3, ground := .phase }, { on := 4, ground := .phase }, { on := 5, ground := .phase }, { on := 6, ground := .phase }, { on := 7, ground := .phase }], guard := none }]
def rDD5 : Array Oper := #[{ dst := some 26, op := .move (.tmp 13), type := 4, pos := "ref.go:321", after := #[], guard := none },
  oQG7]
def rDD6 : Array Oper := #[{ dst := some 8, op := .assign (.const (.slice none 0 0)), type := 30, pos := "ref.go:322", after := #[], guard := none },
  { dst := some 9, op := .assign (.const (.int .i64 (-1))), type := 3, pos := "ref.go:322", after := #[{ on := 0, ground := .chain }, { on := 0, ground := .phase }], guard := none }]
def rDD7 : Array Oper := #[oQG8,
  oQG9,
  oQG10,
  oQG11,
  { dst := some 28, op := .move (.tmp 32), type := 79, pos := "ref.go:324", after := #[{ on := 3, ground := .data }], guard := none },
  oQG12,
  oQG13,
  oQG14,
  { dst := some 14, op := .assign (.tmp 33), type := 28, pos := "ref.go:324", after := #[{ on := 5, ground := .data }, { on := 3, ground := .chain }, { on := 0, ground := .phase }, { on := 1, ground := .phase }, { on := 2, ground := .phase }, { on := 3, ground := .phase }, { on := 4, ground := .phase }, { on := 5, ground := .phase }, { on := 6, ground := .textOnly .lateStores }, { on := 7, ground := .textOnly .lateStores }], guard := none },
  { dst := some 15, op := .assign (.tmp 34), type := 51, pos := "ref.go:324", after := #[{ on := 6, ground := .data }, { on := 8, ground := .chain }, { on := 0, ground := .phase }, { on := 1, ground := .phase }, { on := 2, ground := .phase }, { on := 3, ground := .phase }, { on := 4, ground := .phase }, { on := 5, ground := .phase }, { on := 6, ground := .phase }, { on := 7, ground := .textOnly .lateStores }, { on := 8, ground := .phase }], guard := none },
  { dst := some 16, op := .assign (.tmp 35), type := 3, pos := "ref.go:324", after := #[{ on := 7, ground := .data }, { on := 9, ground := .chain }, { on := 0, ground := .phase }, { on := 1, ground := .phase }, { on := 2, ground := .phase }, { on := 3, ground := .phase }, { on := 4, ground := .phase }, { on := 5, ground := .phase }, { on := 6, ground := .phase }, { on := 7, ground := .phase }, { on := 8, ground := .phase }, { on := 9, ground := .phase }], guard := none }]
def rDD8 : Array Oper := #[oQG15,
  oQG16,
  oQG17,
  oQG18,
  { dst := some 40, op := .move (.tmp 39), type := 4, pos := "ref.go:325", after := #[{ on := 3, ground := .data }], guard := none },
  { dst := some 41, op := .move (.tmp 16), type := 3, pos := "ref.go:325", after := #[{ on := 4, ground := .guard }], guard := some (4, false) },
  oQG19,
  oQG20]
def rDD9 : Array Oper := #[{ dst := some 8, op := .assign (.const (.slice none 0 0)), type := 30, pos := "ref.go:326", after := #[], guard := none },
  { dst := some 9, op := .assign (.const (.int .i64 8)), type := 3, pos := "ref.go:326", after := #[{ on := 0, ground := .chain }, { on := 0, ground := .phase }], guard := none }]
def rDD10 : Array Oper := #[{ dst := some 44, op := .move (.tmp 10), type := 30, pos := "ref.go:328", after := #[], guard := none },
  { dst := some 45, op := .move (.tmp 11), type := 28, pos := "ref.go:328", after := #[], guard := none },
  { dst := some 46, op := .move (.tmp 15), type := 51, pos := "ref.go:328", after := #[], guard := none },
  oQG21,
  oQG22,
  oQG23,
  { dst := some 10, op := .assign (.tmp 49), type := 30, pos := "ref.go:328", after := #[{ on := 5, ground := .data }, { on := 5, ground := .chain }, { on := 0, ground := .phase }, { on := 1, ground := .phase }, { on := 2, ground := .phase }, { on := 3, ground := .phase }, { on := 4, ground := .phase }, { on := 5, ground := .phase }], guard := none }]
def rDD11 : Array Oper := #[oQG24,
  { dst := some 51, op := .move (.tmp 10), type := 30, pos := "ref.go:329", after := #[], guard := none },
  { dst := some 52, op := .move (.tmp 3), type := 28, pos := "ref.go:329", after := #[], guard := none },
  oQG25,
  oQG26]
def rDD12 : Array Oper := #[{ dst := some 8, op := .assign (.const (.slice none 0 0)), type := 30, pos := "ref.go:330", after := #[], guard := none },
  { dst := some 9, op := .assign (.const (.int .i64 8)), type := 3, pos := "ref.go:330", after := #[{ on := 0, ground := .chain }, { on := 0, ground := .phase }], guard := none }]
def rDD13 : Array Oper := #[{ dst := some 55, op := .move (.tmp 14), type := 28, pos := "ref.go:332", after := #[], guard := none },
  { dst := some 11, op := .assign (.tmp 55), type := 28, pos := "ref.go:332", after := #[{ on := 0, ground := .data }, { on := 0, ground := .phase }], guard := none }]
def rDD14 : Array Oper := #[{ dst := some 56, op := .move (.tmp 10), type := 30, pos := "ref.go:334", after := #[], guard := none },
  { dst := some 8, op := .assign (.tmp 56), type := 30, pos := "ref.go:334", after := #[{ on := 0, ground := .data }, { on := 0, ground := .phase }], guard := none },
  { dst := some 9, op := .assign (.const (.int .i64 0)), type := 3, pos := "ref.go:334", after := #[{ on := 1, ground := .chain }, { on := 0, ground := .phase }, { on := 1, ground := .phase }], guard := none }]
def cDD1 : Code := (.seq (.seq (.region 3 rDD3 false) (.cond (.tmp 19) .skip (.exit 0))) (.block 1 (.seq (.region 4 rDD4 false) (.seq (.seq (.region 5 rDD5 false) (.cond (.tmp 27) (.seq (.region 6 rDD6 false) .ret) .skip)) (.seq (.region 7 rDD7 false) (.seq (.seq (.region 8 rDD8 false) (.cond (.tmp 43) (.seq (.region 9 rDD9 false) .ret) .skip)) (.seq (.region 10 rDD10 false) (.seq (.seq (.region 11 rDD11 false) (.cond (.tmp 54) (.seq (.region 12 rDD12 false) .ret) .skip)) (.region 13 rDD13 false)))))))))
def cDD : Code := (.seq (.region 0 rDD0 false) (.seq (.region 1 rDD1 false) (.seq (.seq (.region 2 rDD2 false) (.block 0 (.loop cDD1))) (.seq (.region 14 rDD14 false) .ret))))
/-- While the document reads a chain. -/
structure DRw (w V W : World) (p q : Int) (pages : Nat) (f : Nat → Bool) (acc : List (Nat × List Nat)) (ao : Option Addr) (cc : Nat) (N : List Bt) : Prop where
  same : Same V W
  row : W.ownsRow V.heap.size 53 2 (.slice ao N.length cc) N.length (btCs N)
  new_ : ∀ x ∈ N, NewX w W x
  lt : ∀ x ∈ N, x.pg < 4294967296 ∧ ∀ y ∈ x.ns, y < 4294967296
  key : N.map Bt.key = acc
  dr : dR p q pages (fun _ => false) N = true
  fs : f = sR (fun _ => false) N
  cnt : wtK acc + cntR pages f ≤ pages
theorem new_bv {w W : World} {B cc : Nat} {ao : Option Addr} {N : List Bt} (hr : W.ownsRow B 53 2 (.slice ao N.length cc) N.length (btCs N)) (hn : ∀ x ∈ N, NewX w W x) (hl : ∀ x ∈ N, x.pg < 4294967296 ∧ ∀ y ∈ x.ns, y < 4294967296) : ∃ g, BvRow W ao g 0 N := by
  by_cases h0 : N = []
  · subst h0
    exact ⟨0, fun e => absurd rfl e, fun j x hj => by simp at hj⟩
  · obtain ⟨g, rfl, hlt⟩ := own_some (own_base hr (Nat.zero_le _)) (by intro e; exact h0 (List.eq_nil_of_length_eq_zero e))
    refine ⟨g, fun _ => ⟨rfl, hlt⟩, fun j y hy => ?_⟩
    obtain ⟨b1, b2⟩ := btCs_at [] hy
    rw [List.append_nil] at b1 b2
    have hr0 := own_base hr (Nat.zero_le _)
    have hy1 := List.mem_of_getElem? hy
    have hy2 := hn y hy1
    have hy3 := hl y hy1
    rw [Nat.zero_add]
    exact ⟨own_cell hr0 b1, own_cell hr0 b2, by rw [hy2.no]; exact hy2.row, hy3.1, hy3.2⟩
/-- A batch more. -/
theorem DRw.app {p q : Int} {w V W W5 W6 : World} {pages no xc cc c6 : Nat} {f : Nat → Bool} {acc : List (Nat × List Nat)} {ao xa a6 : Option Addr} {N : List Bt} {ns : List Nat} (h : DRw w V W p q pages f acc ao cc N) (hwV : w.heap.size ≤ V.heap.size) (s5 : Same W W5)
    (o5 : W5.ownsRow W.heap.size 28 1 (.slice xa ns.length xc) ns.length (ncells ns)) (hno : no < 4294967296) (hns : ∀ y ∈ ns, y < 4294967296)
    (g6 : W5.grownBy W6 (Value.slice ao N.length cc).ownBlock) (o6 : W6.ownsRow V.heap.size 53 2 (.slice a6 (N.length + 1) c6) (N.length + 1) (btCs N ++ [.int .u32 (no : Int), .slice xa ns.length xc])) :
    ∃ b : Bt, b.pg = no ∧ b.ns = ns ∧ Same V W6 ∧ W6.ownsRow V.heap.size 53 2 (.slice a6 (N ++ [b]).length c6) (N ++ [b]).length (btCs (N ++ [b])) ∧ (∀ x ∈ N ++ [b], NewX w W6 x) ∧ (∀ x ∈ N ++ [b], x.pg < 4294967296 ∧ ∀ y ∈ x.ns, y < 4294967296) := by
  have hz : w.heap.size ≤ W.heap.size := Nat.le_trans hwV h.same.size
  have rN := own_frameB h.row s5 (fun _ _ e => e)
  have f6 : Fr (fun b => (Value.slice ao N.length cc).ownBlock = some b) W5 W6 := Fr.grown (Fr.refl _ _) g6 (fun b e _ => e)
  have nb6 : ∀ (x : Bt), NewX w W5 x → NewX w W6 x := fun x hx => by
    rcases rN.2 with ⟨hv, _⟩ | ⟨g, c, cur, hv, _, hh, _⟩
    · exact hx.fr f6 (fun k hk e => by rw [hv] at e; cases e) (fun _ e => by rw [hv] at e; cases e)
    · refine hx.fr f6 (fun k hk e => ?_) (fun he e => ?_)
      · rw [hv] at e
        have e2 : g = k := by simpa [Value.ownBlock] using e
        subst e2
        exact own_neT hx.own hh (by decide) g hk rfl
      · rw [hv] at e
        have e2 : g = x.nb := by simpa [Value.ownBlock] using e
        have hk : (Value.slice x.na x.ns.length x.nc).ownBlock = some x.nb := by rw [(hx.row.place he).1]; rfl
        exact own_neT hx.own hh (by decide) x.nb hk e2.symm
  obtain ⟨nb, hnb⟩ := own_nrow o5 rfl
  have hx5 : NewX w W5 ⟨no, xa, nb, 0, xc, ns⟩ := ⟨rfl, own_base o5 hz, hnb⟩
  refine ⟨⟨no, xa, nb, 0, xc, ns⟩, rfl, rfl, Fr.trans (h.same.trans s5) f6 (fun k hk e => by have e1 := own_blk rN k e; omega), ?_, fun x hx => ?_, fun x hx => ?_⟩
  · rw [List.length_append, List.length_singleton, btCs_app]
    exact o6
  · rcases List.mem_append.1 hx with hx | hx
    · exact nb6 x ((h.new_ x hx).fr s5 (fun _ _ e => e) (fun _ e => e))
    · obtain rfl : x = ⟨no, xa, nb, 0, xc, ns⟩ := by simpa using hx
      exact nb6 _ hx5
  · rcases List.mem_append.1 hx with hx | hx
    · exact h.lt x hx
    · obtain rfl : x = ⟨no, xa, nb, 0, xc, ns⟩ := by simpa using hx
      exact ⟨hno, hns⟩
structure IDD (v1 v3 : Value) (fb : Nat) (a : Act) : Prop where
  size : a.tmps.size = 57
  defers : a.defers = []
  s1 : a.eval (.tmp 1) = v1
  s3 : a.eval (.tmp 3) = v3
  s4 : a.eval (.tmp 4) = .pointer (some ⟨fb, 0, none⟩)
theorem IDD.keep {v1 v3 : Value} {fb : Nat} {a0 a : Act} {env : List (Nat × Value)} (h : IDD v1 v3 fb a0) (f : Fe a0 env a) (h1 : look env 1 (a0.eval (.tmp 1)) = a0.eval (.tmp 1)) (h3 : look env 3 (a0.eval (.tmp 3)) = a0.eval (.tmp 3)) (h4 : look env 4 (a0.eval (.tmp 4)) = a0.eval (.tmp 4)) : IDD v1 v3 fb a :=
  ⟨f.size.trans h.size, f.defers.trans h.defers, ((f.at_ 1).trans h1).trans h.s1, ((f.at_ 3).trans h3).trans h.s3, ((f.at_ 4).trans h4).trans h.s4⟩
set_option maxRecDepth 100000 in
set_option maxHeartbeats 1000000 in
theorem dd_a {fb at_ n cp pages : Nat} {pa : Option Addr} {Q : Exit → Act → World → Prop} (a0 : Act) (wr : World) (I0 : IDD (.slice pa n cp) (.int .u32 (pages : Int)) fb a0) (h11 : a0.eval (.tmp 11) = .int .u32 (at_ : Int)) (h0 : at_ ≠ 0)
    (kF : ∀ Z, Same wr Z → Calls Try.prog 23 #[.slice pa n cp, .int .u32 (at_ : Int)] Z fun e w' => e = .returned (.tuple #[.agg #[.int .u8 0, .int .u32 0, .int .u64 0, .string ⟨#[]⟩], .bool false]) ∧ Same Z w')
    (hQ : ∀ a W, a.defers = [] → a.eval (.tmp 8) = .slice none 0 0 → a.eval (.tmp 9) = .int .i64 (-1) → Same wr W → Q .ret a W) : cDD1.wp Try.prog Q a0 wr := by
  have hai : ¬ (at_ : Int) = 0 := by omega
  have had : ((at_ : Int) == 0) = false := by simpa using hai
  have h0n : ¬ at_ = 0 := h0
  have g_0 := Fe.refl a0
  unfold cDD1
  refine wp_seq (wp_seq ?_)
  refine wp_region_list ?_
  unfold rDD3
  refine g_0.move 18 (.int .u32 (at_ : Int)) _ (Or.inl rfl) rfl (lb_ I0.size) (wn rfl) ((g_0.at_ 11).trans h11) (fun x_1 g_1 => ?_)
  clear g_0
  have r_2 : (execOp x_1.eval oQG1).run Try.prog (wr) = .ok (.value (.bool true)) (wr) := by
    unfold oQG1
    have kc : ∀ v, x_1.eval (.const v) = v := fun _ => rfl
    have e18 : x_1.eval (.tmp 18) = .int .u32 (at_ : Int) := g_1.at_ 18
    clear g_1 hQ h11
    generalize x_1.eval = ρ at *
    go_simp
  refine g_1.step 19 _ rfl (lb_ I0.size) (wn rfl) r_2 (fun x_2 g_2 => ?_)
  clear r_2 g_1
  refine wpList_nil ?_
  change Code.wp _ _ _ _ _
  refine wp_cond_true (show x_2.eval (.tmp 19) = .bool true from (g_2.at_ 19)) (wp_skip ?_)
  change Code.wp _ _ _ _ _
  refine wp_block (wp_seq ?_)
  refine wp_region_list ?_
  unfold rDD4
  refine g_2.move 21 (.slice pa n cp) _ (Or.inl rfl) rfl (lb_ I0.size) (wn rfl) ((g_2.at_ 1).trans I0.s1) (fun x_3 g_3 => ?_)
  clear g_2
  refine g_3.move 22 (.int .u32 (at_ : Int)) _ (Or.inl rfl) rfl (lb_ I0.size) (wn rfl) ((g_3.at_ 11).trans h11) (fun x_4 g_4 => ?_)
  clear g_3
  have r_5 : (execOp x_4.eval oQG2).run Try.prog (wr) = .ok (.enter 23 #[.slice pa n cp, .int .u32 (at_ : Int)]) (wr) := by
    unfold oQG2
    have kf : ∀ f, x_4.eval (.func f) = .func (.func f) #[] #[] := fun _ => rfl
    have e21 : x_4.eval (.tmp 21) = .slice pa n cp := g_4.at_ 21
    have e22 : x_4.eval (.tmp 22) = .int .u32 (at_ : Int) := g_4.at_ 22
    clear g_4 hQ h11
    generalize x_4.eval = ρ at *
    go_simp
  refine g_4.call 23 rfl (lb_ I0.size) (wn rfl) r_5 (kF wr (Fr.refl _ wr)) (fun e W1 hR => ?_)
  obtain ⟨rfl, s1⟩ := hR
  clear r_5
  refine ⟨_, rfl, fun x_5 g_5 => ?_⟩
  clear g_4
  refine g_5.move 20 (.tuple #[.agg #[.int .u8 0, .int .u32 0, .int .u64 0, .string ⟨#[]⟩], .bool false]) _ (Or.inl rfl) rfl (lb_ I0.size) (wn rfl) (g_5.at_ 23) (fun x_6 g_6 => ?_)
  clear g_5
  have r_7 : (execOp x_6.eval oQG3).run Try.prog (W1) = .ok (.value (.agg #[.int .u8 0, .int .u32 0, .int .u64 0, .string ⟨#[]⟩])) (W1) := by
    unfold oQG3
    have e20 : x_6.eval (.tmp 20) = .tuple #[.agg #[.int .u8 0, .int .u32 0, .int .u64 0, .string ⟨#[]⟩], .bool false] := g_6.at_ 20
    clear g_6 hQ h11
    generalize x_6.eval = ρ at *
    go_simp
  refine g_6.step 24 _ rfl (lb_ I0.size) (wn rfl) r_7 (fun x_7 g_7 => ?_)
  clear r_7 g_6
  have r_8 : (execOp x_7.eval oQG4).run Try.prog (W1) = .ok (.value (.bool false)) (W1) := by
    unfold oQG4
    have e20 : x_7.eval (.tmp 20) = .tuple #[.agg #[.int .u8 0, .int .u32 0, .int .u64 0, .string ⟨#[]⟩], .bool false] := g_7.at_ 20
    clear g_7 hQ h11
    generalize x_7.eval = ρ at *
    go_simp
  refine g_7.step 25 _ rfl (lb_ I0.size) (wn rfl) r_8 (fun x_8 g_8 => ?_)
  clear r_8 g_7
  have r_9 : (execOp x_8.eval oQG5).run Try.prog (W1) = .ok (.value (.pointer (some ⟨W1.heap.size, 0, none⟩))) (W1.alloc (.cells #[.int .u8 0, .int .u32 0, .int .u64 0, .string ⟨#[]⟩] 76)) := by
    unfold oQG5
    clear g_8 hQ h11
    generalize x_8.eval = ρ at *
    go_simp
  refine g_8.stepW 12 (.pointer (some ⟨W1.heap.size, 0, none⟩)) rfl (lb_ I0.size) (wn rfl) r_9 (fun x_9 g_9 => ?_)
  clear r_9 g_8
  have r_10 : (execOp x_9.eval oQG6).run Try.prog (W1.alloc (.cells #[.int .u8 0, .int .u32 0, .int .u64 0, .string ⟨#[]⟩] 76)) = .ok .skip (W1.alloc (.cells #[.int .u8 0, .int .u32 0, .int .u64 0, .string ⟨#[]⟩] 76)) := by
    unfold oQG6
    have e12 : x_9.eval (.tmp 12) = .pointer (some ⟨W1.heap.size, 0, none⟩) := g_9.at_ 12
    have e24 : x_9.eval (.tmp 24) = .agg #[.int .u8 0, .int .u32 0, .int .u64 0, .string ⟨#[]⟩] := g_9.at_ 24
    clear g_9 hQ h11
    generalize x_9.eval = ρ at *
    go_simp
  refine g_9.store rfl (wn rfl) r_10 (fun x_10 g_10 => ?_)
  clear r_10 g_9
  refine g_10.move 13 (.bool false) _ (Or.inr rfl) rfl (lb_ I0.size) (wn rfl) (g_10.at_ 25) (fun x_11 g_11 => ?_)
  clear g_10
  refine wpList_nil ?_
  obtain ⟨W2, hW2⟩ : ∃ W2, W2 = W1.alloc (.cells #[.int .u8 0, .int .u32 0, .int .u64 0, .string ⟨#[]⟩] 76) := ⟨_, rfl⟩
  rw [← hW2]
  have s2 : Same wr W2 := by rw [hW2]; exact s1.alloc _
  have r2 : W2.heap[W1.heap.size]? = some (.cells #[.int .u8 0, .int .u32 0, .int .u64 0, .string ⟨#[]⟩] 76 (0, 0)) := by rw [hW2]; exact heap_alloc_new W1 _
  clear hW2
  change Code.wp _ _ _ _ _
  refine wp_seq (wp_seq ?_)
  refine wp_region_list ?_
  unfold rDD5
  refine g_11.move 26 (.bool false) _ (Or.inl rfl) rfl (lb_ I0.size) (wn rfl) (g_11.at_ 13) (fun x_12 g_12 => ?_)
  clear g_11
  have r_13 : (execOp x_12.eval oQG7).run Try.prog (W2) = .ok (.value (.bool true)) (W2) := by
    unfold oQG7
    have e26 : x_12.eval (.tmp 26) = .bool false := g_12.at_ 26
    clear g_12 hQ h11
    generalize x_12.eval = ρ at *
    go_simp
  refine g_12.step 27 _ rfl (lb_ I0.size) (wn rfl) r_13 (fun x_13 g_13 => ?_)
  clear r_13 g_12
  refine wpList_nil ?_
  change Code.wp _ _ _ _ _
  refine wp_cond_true (show x_13.eval (.tmp 27) = .bool true from (g_13.at_ 27)) (wp_seq ?_)
  refine wp_region_list ?_
  unfold rDD6
  refine g_13.move 8 (.slice none 0 0) _ (Or.inr rfl) rfl (lb_ I0.size) (wn rfl) rfl (fun x_14 g_14 => ?_)
  clear g_13
  refine g_14.move 9 (.int .i64 (-1)) _ (Or.inr rfl) rfl (lb_ I0.size) (wn rfl) rfl (fun x_15 g_15 => ?_)
  clear g_14
  refine wpList_nil ?_
  change Code.wp _ _ _ _ _
  refine wp_ret ?_
  exact hQ x_15 W2 (g_15.defers.trans I0.defers) (show x_15.eval (.tmp 8) = .slice none 0 0 from (g_15.at_ 8)) (show x_15.eval (.tmp 9) = .int .i64 (-1) from (g_15.at_ 9)) s2
set_option maxRecDepth 100000 in
set_option maxHeartbeats 1000000 in
theorem dd_b {p q e2 : Int} {fb at_ n cp pages no vr nx kd : Nat} {pa : Option Addr} {bd : ByteArray} {ns : List Nat} {Q : Exit → Act → World → Prop} (a0 : Act) (wr : World) (I0 : IDD (.slice pa n cp) (.int .u32 (pages : Int)) fb a0) (h11 : a0.eval (.tmp 11) = .int .u32 (at_ : Int)) (h0 : at_ ≠ 0) (d0 : wr.cell? ⟨fb, 0, none⟩ = some (.int .i64 p)) (d1 : wr.cell? ⟨fb, 1, none⟩ = some (.int .i64 q)) (hk : kd ≠ 3) (hk2 : kd < 256)
    (kF : ∀ Z, Same wr Z → Calls Try.prog 23 #[.slice pa n cp, .int .u32 (at_ : Int)] Z fun e w' => e = .returned (.tuple #[.agg #[.int .u8 (kd : Int), .int .u32 (no : Int), .int .u64 (vr : Int), .string bd], .bool true]) ∧ Same Z w')
    (kB : ∀ Z, Same wr Z → Calls Try.prog 24 #[.agg #[.int .i64 p, .int .i64 q], .string bd] Z fun e w' => (∃ xa xc, e = .returned (.tuple #[.int .u32 (nx : Int), .slice xa ns.length xc, .int .i64 e2]) ∧ w'.ownsRow Z.heap.size 28 1 (.slice xa ns.length xc) ns.length (ncells ns)) ∧ Same Z w')
    (hQ : ∀ a W, a.defers = [] → a.eval (.tmp 8) = .slice none 0 0 → a.eval (.tmp 9) = .int .i64 8 → Same wr W → Q .ret a W) : cDD1.wp Try.prog Q a0 wr := by
  have hai : ¬ (at_ : Int) = 0 := by omega
  have had : ((at_ : Int) == 0) = false := by simpa using hai
  have h0n : ¬ at_ = 0 := h0
  have hki : ¬ (kd : Int) = 3 := by omega
  have hkd : ((kd : Int) == 3) = false := by simpa using hki
  have hkn : ¬ kd = 3 := hk
  have wk : IntKind.i64.wrap (kd : Int) = (kd : Int) := by rw [IntKind.wrap_i64]; omega
  clear hk2
  have g_0 := Fe.refl a0
  unfold cDD1
  refine wp_seq (wp_seq ?_)
  refine wp_region_list ?_
  unfold rDD3
  refine g_0.move 18 (.int .u32 (at_ : Int)) _ (Or.inl rfl) rfl (lb_ I0.size) (wn rfl) ((g_0.at_ 11).trans h11) (fun x_1 g_1 => ?_)
  clear g_0
  have r_2 : (execOp x_1.eval oQG1).run Try.prog (wr) = .ok (.value (.bool true)) (wr) := by
    unfold oQG1
    have kc : ∀ v, x_1.eval (.const v) = v := fun _ => rfl
    have e18 : x_1.eval (.tmp 18) = .int .u32 (at_ : Int) := g_1.at_ 18
    clear g_1 hQ h11
    generalize x_1.eval = ρ at *
    go_simp
  refine g_1.step 19 _ rfl (lb_ I0.size) (wn rfl) r_2 (fun x_2 g_2 => ?_)
  clear r_2 g_1
  refine wpList_nil ?_
  change Code.wp _ _ _ _ _
  refine wp_cond_true (show x_2.eval (.tmp 19) = .bool true from (g_2.at_ 19)) (wp_skip ?_)
  change Code.wp _ _ _ _ _
  refine wp_block (wp_seq ?_)
  refine wp_region_list ?_
  unfold rDD4
  refine g_2.move 21 (.slice pa n cp) _ (Or.inl rfl) rfl (lb_ I0.size) (wn rfl) ((g_2.at_ 1).trans I0.s1) (fun x_3 g_3 => ?_)
  clear g_2
  refine g_3.move 22 (.int .u32 (at_ : Int)) _ (Or.inl rfl) rfl (lb_ I0.size) (wn rfl) ((g_3.at_ 11).trans h11) (fun x_4 g_4 => ?_)
  clear g_3
  have r_5 : (execOp x_4.eval oQG2).run Try.prog (wr) = .ok (.enter 23 #[.slice pa n cp, .int .u32 (at_ : Int)]) (wr) := by
    unfold oQG2
    have kf : ∀ f, x_4.eval (.func f) = .func (.func f) #[] #[] := fun _ => rfl
    have e21 : x_4.eval (.tmp 21) = .slice pa n cp := g_4.at_ 21
    have e22 : x_4.eval (.tmp 22) = .int .u32 (at_ : Int) := g_4.at_ 22
    clear g_4 hQ h11
    generalize x_4.eval = ρ at *
    go_simp
  refine g_4.call 23 rfl (lb_ I0.size) (wn rfl) r_5 (kF wr (Fr.refl _ wr)) (fun e W1 hR => ?_)
  obtain ⟨rfl, s1⟩ := hR
  clear r_5
  refine ⟨_, rfl, fun x_5 g_5 => ?_⟩
  clear g_4
  refine g_5.move 20 (.tuple #[.agg #[.int .u8 (kd : Int), .int .u32 (no : Int), .int .u64 (vr : Int), .string bd], .bool true]) _ (Or.inl rfl) rfl (lb_ I0.size) (wn rfl) (g_5.at_ 23) (fun x_6 g_6 => ?_)
  clear g_5
  have r_7 : (execOp x_6.eval oQG3).run Try.prog (W1) = .ok (.value (.agg #[.int .u8 (kd : Int), .int .u32 (no : Int), .int .u64 (vr : Int), .string bd])) (W1) := by
    unfold oQG3
    have e20 : x_6.eval (.tmp 20) = .tuple #[.agg #[.int .u8 (kd : Int), .int .u32 (no : Int), .int .u64 (vr : Int), .string bd], .bool true] := g_6.at_ 20
    clear g_6 hQ h11
    generalize x_6.eval = ρ at *
    go_simp
  refine g_6.step 24 _ rfl (lb_ I0.size) (wn rfl) r_7 (fun x_7 g_7 => ?_)
  clear r_7 g_6
  have r_8 : (execOp x_7.eval oQG4).run Try.prog (W1) = .ok (.value (.bool true)) (W1) := by
    unfold oQG4
    have e20 : x_7.eval (.tmp 20) = .tuple #[.agg #[.int .u8 (kd : Int), .int .u32 (no : Int), .int .u64 (vr : Int), .string bd], .bool true] := g_7.at_ 20
    clear g_7 hQ h11
    generalize x_7.eval = ρ at *
    go_simp
  refine g_7.step 25 _ rfl (lb_ I0.size) (wn rfl) r_8 (fun x_8 g_8 => ?_)
  clear r_8 g_7
  have r_9 : (execOp x_8.eval oQG5).run Try.prog (W1) = .ok (.value (.pointer (some ⟨W1.heap.size, 0, none⟩))) (W1.alloc (.cells #[.int .u8 0, .int .u32 0, .int .u64 0, .string ⟨#[]⟩] 76)) := by
    unfold oQG5
    clear g_8 hQ h11
    generalize x_8.eval = ρ at *
    go_simp
  refine g_8.stepW 12 (.pointer (some ⟨W1.heap.size, 0, none⟩)) rfl (lb_ I0.size) (wn rfl) r_9 (fun x_9 g_9 => ?_)
  clear r_9 g_8
  have r_10 : (execOp x_9.eval oQG6).run Try.prog (W1.alloc (.cells #[.int .u8 0, .int .u32 0, .int .u64 0, .string ⟨#[]⟩] 76)) = .ok .skip (W1.alloc (.cells #[.int .u8 (kd : Int), .int .u32 (no : Int), .int .u64 (vr : Int), .string bd] 76)) := by
    unfold oQG6
    have e12 : x_9.eval (.tmp 12) = .pointer (some ⟨W1.heap.size, 0, none⟩) := g_9.at_ 12
    have e24 : x_9.eval (.tmp 24) = .agg #[.int .u8 (kd : Int), .int .u32 (no : Int), .int .u64 (vr : Int), .string bd] := g_9.at_ 24
    clear g_9 hQ h11
    generalize x_9.eval = ρ at *
    go_simp
  refine g_9.store rfl (wn rfl) r_10 (fun x_10 g_10 => ?_)
  clear r_10 g_9
  refine g_10.move 13 (.bool true) _ (Or.inr rfl) rfl (lb_ I0.size) (wn rfl) (g_10.at_ 25) (fun x_11 g_11 => ?_)
  clear g_10
  refine wpList_nil ?_
  obtain ⟨W2, hW2⟩ : ∃ W2, W2 = W1.alloc (.cells #[.int .u8 (kd : Int), .int .u32 (no : Int), .int .u64 (vr : Int), .string bd] 76) := ⟨_, rfl⟩
  rw [← hW2]
  have s2 : Same wr W2 := by rw [hW2]; exact s1.alloc _
  have r2 : W2.heap[W1.heap.size]? = some (.cells #[.int .u8 (kd : Int), .int .u32 (no : Int), .int .u64 (vr : Int), .string bd] 76 (0, 0)) := by rw [hW2]; exact heap_alloc_new W1 _
  clear hW2
  change Code.wp _ _ _ _ _
  refine wp_seq (wp_seq ?_)
  refine wp_region_list ?_
  unfold rDD5
  refine g_11.move 26 (.bool true) _ (Or.inl rfl) rfl (lb_ I0.size) (wn rfl) (g_11.at_ 13) (fun x_12 g_12 => ?_)
  clear g_11
  have r_13 : (execOp x_12.eval oQG7).run Try.prog (W2) = .ok (.value (.bool false)) (W2) := by
    unfold oQG7
    have e26 : x_12.eval (.tmp 26) = .bool true := g_12.at_ 26
    clear g_12 hQ h11
    generalize x_12.eval = ρ at *
    go_simp
  refine g_12.step 27 _ rfl (lb_ I0.size) (wn rfl) r_13 (fun x_13 g_13 => ?_)
  clear r_13 g_12
  refine wpList_nil ?_
  change Code.wp _ _ _ _ _
  refine wp_cond_false (show x_13.eval (.tmp 27) = .bool false from (g_13.at_ 27)) (wp_skip ?_)
  change Code.wp _ _ _ _ _
  refine wp_seq ?_
  have d0x := s2.keep d0
  have d1x := s2.keep d1
  have t3 : W2.cell? ⟨W1.heap.size, 3, none⟩ = some (.string bd) := (cell_of_row _ _ _ _ _ _ r2).trans rfl
  refine wp_region_list ?_
  unfold rDD7
  have r_14 : (execOp x_13.eval oQG8).run Try.prog (W2) = .ok (.value (.agg #[.int .i64 p, .int .i64 q])) (W2) := by
    unfold oQG8
    have e4 := (show x_13.eval (.tmp 4) = .pointer (some ⟨fb, 0, none⟩) from ((g_13.at_ 4).trans I0.s4))
    clear g_13 hQ h11
    generalize x_13.eval = ρ at *
    go_simp
  refine g_13.step 29 _ rfl (lb_ I0.size) (wn rfl) r_14 (fun x_14 g_14 => ?_)
  clear r_14 g_13
  have r_15 : (execOp x_14.eval oQG9).run Try.prog (W2) = .ok (.value (.pointer (some ⟨W1.heap.size, 3, none⟩))) (W2) := by
    unfold oQG9
    have e12 : x_14.eval (.tmp 12) = .pointer (some ⟨W1.heap.size, 0, none⟩) := g_14.at_ 12
    clear g_14 hQ h11
    generalize x_14.eval = ρ at *
    go_simp
  refine g_14.step 30 _ rfl (lb_ I0.size) (wn rfl) r_15 (fun x_15 g_15 => ?_)
  clear r_15 g_14
  have r_16 : (execOp x_15.eval oQG10).run Try.prog (W2) = .ok (.value (.string bd)) (W2) := by
    unfold oQG10
    have e30 : x_15.eval (.tmp 30) = .pointer (some ⟨W1.heap.size, 3, none⟩) := g_15.at_ 30
    clear g_15 hQ h11
    generalize x_15.eval = ρ at *
    go_simp
  refine g_15.step 31 _ rfl (lb_ I0.size) (wn rfl) r_16 (fun x_16 g_16 => ?_)
  clear r_16 g_15
  have r_17 : (execOp x_16.eval oQG11).run Try.prog (W2) = .ok (.enter 24 #[.agg #[.int .i64 p, .int .i64 q], .string bd]) (W2) := by
    unfold oQG11
    have kf : ∀ f, x_16.eval (.func f) = .func (.func f) #[] #[] := fun _ => rfl
    have e29 : x_16.eval (.tmp 29) = .agg #[.int .i64 p, .int .i64 q] := g_16.at_ 29
    have e31 : x_16.eval (.tmp 31) = .string bd := g_16.at_ 31
    clear g_16 hQ h11
    generalize x_16.eval = ρ at *
    go_simp
  refine g_16.call 32 rfl (lb_ I0.size) (wn rfl) r_17 (kB W2 s2) (fun e W4 hR => ?_)
  obtain ⟨⟨xa, xc, rfl, o4⟩, s4⟩ := hR
  clear r_17
  refine ⟨_, rfl, fun x_17 g_17 => ?_⟩
  clear g_16
  refine g_17.move 28 (.tuple #[.int .u32 (nx : Int), .slice xa ns.length xc, .int .i64 e2]) _ (Or.inl rfl) rfl (lb_ I0.size) (wn rfl) (g_17.at_ 32) (fun x_18 g_18 => ?_)
  clear g_17
  have r_19 : (execOp x_18.eval oQG12).run Try.prog (W4) = .ok (.value (.int .u32 (nx : Int))) (W4) := by
    unfold oQG12
    have e28 : x_18.eval (.tmp 28) = .tuple #[.int .u32 (nx : Int), .slice xa ns.length xc, .int .i64 e2] := g_18.at_ 28
    clear g_18 hQ h11
    generalize x_18.eval = ρ at *
    go_simp
  refine g_18.step 33 _ rfl (lb_ I0.size) (wn rfl) r_19 (fun x_19 g_19 => ?_)
  clear r_19 g_18
  have r_20 : (execOp x_19.eval oQG13).run Try.prog (W4) = .ok (.value (.slice xa ns.length xc)) (W4) := by
    unfold oQG13
    have e28 : x_19.eval (.tmp 28) = .tuple #[.int .u32 (nx : Int), .slice xa ns.length xc, .int .i64 e2] := g_19.at_ 28
    clear g_19 hQ h11
    generalize x_19.eval = ρ at *
    go_simp
  refine g_19.step 34 _ rfl (lb_ I0.size) (wn rfl) r_20 (fun x_20 g_20 => ?_)
  clear r_20 g_19
  have r_21 : (execOp x_20.eval oQG14).run Try.prog (W4) = .ok (.value (.int .i64 e2)) (W4) := by
    unfold oQG14
    have e28 : x_20.eval (.tmp 28) = .tuple #[.int .u32 (nx : Int), .slice xa ns.length xc, .int .i64 e2] := g_20.at_ 28
    clear g_20 hQ h11
    generalize x_20.eval = ρ at *
    go_simp
  refine g_20.step 35 _ rfl (lb_ I0.size) (wn rfl) r_21 (fun x_21 g_21 => ?_)
  clear r_21 g_20
  refine g_21.move 14 (.int .u32 (nx : Int)) _ (Or.inr rfl) rfl (lb_ I0.size) (wn rfl) (g_21.at_ 33) (fun x_22 g_22 => ?_)
  clear g_21
  refine g_22.move 15 (.slice xa ns.length xc) _ (Or.inr rfl) rfl (lb_ I0.size) (wn rfl) (g_22.at_ 34) (fun x_23 g_23 => ?_)
  clear g_22
  refine g_23.move 16 (.int .i64 e2) _ (Or.inr rfl) rfl (lb_ I0.size) (wn rfl) (g_23.at_ 35) (fun x_24 g_24 => ?_)
  clear g_23
  refine wpList_nil ?_
  have t0 : W4.cell? ⟨W1.heap.size, 0, none⟩ = some (.int .u8 (kd : Int)) := s4.keep ((cell_of_row _ _ _ _ _ _ r2).trans rfl)
  have s24 : Same wr W4 := s2.trans s4
  change Code.wp _ _ _ _ _
  refine wp_seq (wp_seq ?_)
  refine wp_region_list ?_
  unfold rDD8
  have r_25 : (execOp x_24.eval oQG15).run Try.prog (W4) = .ok (.value (.pointer (some ⟨W1.heap.size, 0, none⟩))) (W4) := by
    unfold oQG15
    have e12 : x_24.eval (.tmp 12) = .pointer (some ⟨W1.heap.size, 0, none⟩) := g_24.at_ 12
    clear g_24 hQ h11
    generalize x_24.eval = ρ at *
    go_simp
  refine g_24.step 36 _ rfl (lb_ I0.size) (wn rfl) r_25 (fun x_25 g_25 => ?_)
  clear r_25 g_24
  have r_26 : (execOp x_25.eval oQG16).run Try.prog (W4) = .ok (.value (.int .u8 (kd : Int))) (W4) := by
    unfold oQG16
    have e36 : x_25.eval (.tmp 36) = .pointer (some ⟨W1.heap.size, 0, none⟩) := g_25.at_ 36
    clear g_25 hQ h11
    generalize x_25.eval = ρ at *
    go_simp
  refine g_25.step 37 _ rfl (lb_ I0.size) (wn rfl) r_26 (fun x_26 g_26 => ?_)
  clear r_26 g_25
  have r_27 : (execOp x_26.eval oQG17).run Try.prog (W4) = .ok (.value (.int .i64 (kd : Int))) (W4) := by
    unfold oQG17
    have e37 : x_26.eval (.tmp 37) = .int .u8 (kd : Int) := g_26.at_ 37
    clear g_26 hQ h11
    generalize x_26.eval = ρ at *
    go_simp
  refine g_26.step 38 _ rfl (lb_ I0.size) (wn rfl) r_27 (fun x_27 g_27 => ?_)
  clear r_27 g_26
  have r_28 : (execOp x_27.eval oQG18).run Try.prog (W4) = .ok (.value (.bool true)) (W4) := by
    unfold oQG18
    have kc : ∀ v, x_27.eval (.const v) = v := fun _ => rfl
    have e38 : x_27.eval (.tmp 38) = .int .i64 (kd : Int) := g_27.at_ 38
    clear g_27 hQ h11
    generalize x_27.eval = ρ at *
    go_simp
  refine g_27.step 39 _ rfl (lb_ I0.size) (wn rfl) r_28 (fun x_28 g_28 => ?_)
  clear r_28 g_27
  refine g_28.move 40 (.bool true) _ (Or.inl rfl) rfl (lb_ I0.size) (wn rfl) (g_28.at_ 39) (fun x_29 g_29 => ?_)
  clear g_28
  refine g_29.skip 41 rfl (lb_ I0.size) ((wanted_at (t := 40) (c := true) (b := false) rfl rfl rfl (lb_ (g_29.size.trans I0.size)) (g_29.at_ 40)).trans (by rfl)) (fun x_30 g_30 => ?_)
  clear g_29
  refine g_30.skip 42 rfl (lb_ I0.size) ((wanted_at (t := 40) (c := true) (b := false) rfl rfl rfl (lb_ (g_30.size.trans I0.size)) (g_30.at_ 40)).trans (by rfl)) (fun x_31 g_31 => ?_)
  clear g_30
  have r_32 : (execOp x_31.eval oQG20).run Try.prog (W4) = .ok (.value (.bool true)) (W4) := by
    unfold oQG20
    have kc : ∀ v, x_31.eval (.const v) = v := fun _ => rfl
    have e40 : x_31.eval (.tmp 40) = .bool true := g_31.at_ 40
    have e42 : x_31.eval (.tmp 42) = undef := g_31.at_ 42
    clear g_31 hQ h11
    generalize x_31.eval = ρ at *
    go_simp
  refine g_31.step 43 _ rfl (lb_ I0.size) (wn rfl) r_32 (fun x_32 g_32 => ?_)
  clear r_32 g_31
  refine wpList_nil ?_
  change Code.wp _ _ _ _ _
  refine wp_cond_true (show x_32.eval (.tmp 43) = .bool true from (g_32.at_ 43)) (wp_seq ?_)
  refine wp_region_list ?_
  unfold rDD9
  refine g_32.move 8 (.slice none 0 0) _ (Or.inr rfl) rfl (lb_ I0.size) (wn rfl) rfl (fun x_33 g_33 => ?_)
  clear g_32
  refine g_33.move 9 (.int .i64 8) _ (Or.inr rfl) rfl (lb_ I0.size) (wn rfl) rfl (fun x_34 g_34 => ?_)
  clear g_33
  refine wpList_nil ?_
  change Code.wp _ _ _ _ _
  refine wp_ret ?_
  exact hQ x_34 W4 (g_34.defers.trans I0.defers) (show x_34.eval (.tmp 8) = .slice none 0 0 from (g_34.at_ 8)) (show x_34.eval (.tmp 9) = .int .i64 8 from (g_34.at_ 9)) s24
set_option maxRecDepth 100000 in
set_option maxHeartbeats 1000000 in
theorem dd_c {p q e2 : Int} {fb at_ n cp pages no vr nx : Nat} {pa : Option Addr} {bd : ByteArray} {ns : List Nat} {Q : Exit → Act → World → Prop} (a0 : Act) (wr : World) (I0 : IDD (.slice pa n cp) (.int .u32 (pages : Int)) fb a0) (h11 : a0.eval (.tmp 11) = .int .u32 (at_ : Int)) (h0 : at_ ≠ 0) (d0 : wr.cell? ⟨fb, 0, none⟩ = some (.int .i64 p)) (d1 : wr.cell? ⟨fb, 1, none⟩ = some (.int .i64 q)) (he : ¬ e2 = 0)
    (kF : ∀ Z, Same wr Z → Calls Try.prog 23 #[.slice pa n cp, .int .u32 (at_ : Int)] Z fun e w' => e = .returned (.tuple #[.agg #[.int .u8 3, .int .u32 (no : Int), .int .u64 (vr : Int), .string bd], .bool true]) ∧ Same Z w')
    (kB : ∀ Z, Same wr Z → Calls Try.prog 24 #[.agg #[.int .i64 p, .int .i64 q], .string bd] Z fun e w' => (∃ xa xc, e = .returned (.tuple #[.int .u32 (nx : Int), .slice xa ns.length xc, .int .i64 e2]) ∧ w'.ownsRow Z.heap.size 28 1 (.slice xa ns.length xc) ns.length (ncells ns)) ∧ Same Z w')
    (hQ : ∀ a W, a.defers = [] → a.eval (.tmp 8) = .slice none 0 0 → a.eval (.tmp 9) = .int .i64 8 → Same wr W → Q .ret a W) : cDD1.wp Try.prog Q a0 wr := by
  have hai : ¬ (at_ : Int) = 0 := by omega
  have had : ((at_ : Int) == 0) = false := by simpa using hai
  have h0n : ¬ at_ = 0 := h0
  have wk3 : IntKind.i64.wrap 3 = 3 := by decide
  have hed : (e2 == 0) = false := by simpa using he
  have g_0 := Fe.refl a0
  unfold cDD1
  refine wp_seq (wp_seq ?_)
  refine wp_region_list ?_
  unfold rDD3
  refine g_0.move 18 (.int .u32 (at_ : Int)) _ (Or.inl rfl) rfl (lb_ I0.size) (wn rfl) ((g_0.at_ 11).trans h11) (fun x_1 g_1 => ?_)
  clear g_0
  have r_2 : (execOp x_1.eval oQG1).run Try.prog (wr) = .ok (.value (.bool true)) (wr) := by
    unfold oQG1
    have kc : ∀ v, x_1.eval (.const v) = v := fun _ => rfl
    have e18 : x_1.eval (.tmp 18) = .int .u32 (at_ : Int) := g_1.at_ 18
    clear g_1 hQ h11
    generalize x_1.eval = ρ at *
    go_simp
  refine g_1.step 19 _ rfl (lb_ I0.size) (wn rfl) r_2 (fun x_2 g_2 => ?_)
  clear r_2 g_1
  refine wpList_nil ?_
  change Code.wp _ _ _ _ _
  refine wp_cond_true (show x_2.eval (.tmp 19) = .bool true from (g_2.at_ 19)) (wp_skip ?_)
  change Code.wp _ _ _ _ _
  refine wp_block (wp_seq ?_)
  refine wp_region_list ?_
  unfold rDD4
  refine g_2.move 21 (.slice pa n cp) _ (Or.inl rfl) rfl (lb_ I0.size) (wn rfl) ((g_2.at_ 1).trans I0.s1) (fun x_3 g_3 => ?_)
  clear g_2
  refine g_3.move 22 (.int .u32 (at_ : Int)) _ (Or.inl rfl) rfl (lb_ I0.size) (wn rfl) ((g_3.at_ 11).trans h11) (fun x_4 g_4 => ?_)
  clear g_3
  have r_5 : (execOp x_4.eval oQG2).run Try.prog (wr) = .ok (.enter 23 #[.slice pa n cp, .int .u32 (at_ : Int)]) (wr) := by
    unfold oQG2
    have kf : ∀ f, x_4.eval (.func f) = .func (.func f) #[] #[] := fun _ => rfl
    have e21 : x_4.eval (.tmp 21) = .slice pa n cp := g_4.at_ 21
    have e22 : x_4.eval (.tmp 22) = .int .u32 (at_ : Int) := g_4.at_ 22
    clear g_4 hQ h11
    generalize x_4.eval = ρ at *
    go_simp
  refine g_4.call 23 rfl (lb_ I0.size) (wn rfl) r_5 (kF wr (Fr.refl _ wr)) (fun e W1 hR => ?_)
  obtain ⟨rfl, s1⟩ := hR
  clear r_5
  refine ⟨_, rfl, fun x_5 g_5 => ?_⟩
  clear g_4
  refine g_5.move 20 (.tuple #[.agg #[.int .u8 3, .int .u32 (no : Int), .int .u64 (vr : Int), .string bd], .bool true]) _ (Or.inl rfl) rfl (lb_ I0.size) (wn rfl) (g_5.at_ 23) (fun x_6 g_6 => ?_)
  clear g_5
  have r_7 : (execOp x_6.eval oQG3).run Try.prog (W1) = .ok (.value (.agg #[.int .u8 3, .int .u32 (no : Int), .int .u64 (vr : Int), .string bd])) (W1) := by
    unfold oQG3
    have e20 : x_6.eval (.tmp 20) = .tuple #[.agg #[.int .u8 3, .int .u32 (no : Int), .int .u64 (vr : Int), .string bd], .bool true] := g_6.at_ 20
    clear g_6 hQ h11
    generalize x_6.eval = ρ at *
    go_simp
  refine g_6.step 24 _ rfl (lb_ I0.size) (wn rfl) r_7 (fun x_7 g_7 => ?_)
  clear r_7 g_6
  have r_8 : (execOp x_7.eval oQG4).run Try.prog (W1) = .ok (.value (.bool true)) (W1) := by
    unfold oQG4
    have e20 : x_7.eval (.tmp 20) = .tuple #[.agg #[.int .u8 3, .int .u32 (no : Int), .int .u64 (vr : Int), .string bd], .bool true] := g_7.at_ 20
    clear g_7 hQ h11
    generalize x_7.eval = ρ at *
    go_simp
  refine g_7.step 25 _ rfl (lb_ I0.size) (wn rfl) r_8 (fun x_8 g_8 => ?_)
  clear r_8 g_7
  have r_9 : (execOp x_8.eval oQG5).run Try.prog (W1) = .ok (.value (.pointer (some ⟨W1.heap.size, 0, none⟩))) (W1.alloc (.cells #[.int .u8 0, .int .u32 0, .int .u64 0, .string ⟨#[]⟩] 76)) := by
    unfold oQG5
    clear g_8 hQ h11
    generalize x_8.eval = ρ at *
    go_simp
  refine g_8.stepW 12 (.pointer (some ⟨W1.heap.size, 0, none⟩)) rfl (lb_ I0.size) (wn rfl) r_9 (fun x_9 g_9 => ?_)
  clear r_9 g_8
  have r_10 : (execOp x_9.eval oQG6).run Try.prog (W1.alloc (.cells #[.int .u8 0, .int .u32 0, .int .u64 0, .string ⟨#[]⟩] 76)) = .ok .skip (W1.alloc (.cells #[.int .u8 3, .int .u32 (no : Int), .int .u64 (vr : Int), .string bd] 76)) := by
    unfold oQG6
    have e12 : x_9.eval (.tmp 12) = .pointer (some ⟨W1.heap.size, 0, none⟩) := g_9.at_ 12
    have e24 : x_9.eval (.tmp 24) = .agg #[.int .u8 3, .int .u32 (no : Int), .int .u64 (vr : Int), .string bd] := g_9.at_ 24
    clear g_9 hQ h11
    generalize x_9.eval = ρ at *
    go_simp
  refine g_9.store rfl (wn rfl) r_10 (fun x_10 g_10 => ?_)
  clear r_10 g_9
  refine g_10.move 13 (.bool true) _ (Or.inr rfl) rfl (lb_ I0.size) (wn rfl) (g_10.at_ 25) (fun x_11 g_11 => ?_)
  clear g_10
  refine wpList_nil ?_
  obtain ⟨W2, hW2⟩ : ∃ W2, W2 = W1.alloc (.cells #[.int .u8 3, .int .u32 (no : Int), .int .u64 (vr : Int), .string bd] 76) := ⟨_, rfl⟩
  rw [← hW2]
  have s2 : Same wr W2 := by rw [hW2]; exact s1.alloc _
  have r2 : W2.heap[W1.heap.size]? = some (.cells #[.int .u8 3, .int .u32 (no : Int), .int .u64 (vr : Int), .string bd] 76 (0, 0)) := by rw [hW2]; exact heap_alloc_new W1 _
  clear hW2
  change Code.wp _ _ _ _ _
  refine wp_seq (wp_seq ?_)
  refine wp_region_list ?_
  unfold rDD5
  refine g_11.move 26 (.bool true) _ (Or.inl rfl) rfl (lb_ I0.size) (wn rfl) (g_11.at_ 13) (fun x_12 g_12 => ?_)
  clear g_11
  have r_13 : (execOp x_12.eval oQG7).run Try.prog (W2) = .ok (.value (.bool false)) (W2) := by
    unfold oQG7
    have e26 : x_12.eval (.tmp 26) = .bool true := g_12.at_ 26
    clear g_12 hQ h11
    generalize x_12.eval = ρ at *
    go_simp
  refine g_12.step 27 _ rfl (lb_ I0.size) (wn rfl) r_13 (fun x_13 g_13 => ?_)
  clear r_13 g_12
  refine wpList_nil ?_
  change Code.wp _ _ _ _ _
  refine wp_cond_false (show x_13.eval (.tmp 27) = .bool false from (g_13.at_ 27)) (wp_skip ?_)
  change Code.wp _ _ _ _ _
  refine wp_seq ?_
  have d0x := s2.keep d0
  have d1x := s2.keep d1
  have t3 : W2.cell? ⟨W1.heap.size, 3, none⟩ = some (.string bd) := (cell_of_row _ _ _ _ _ _ r2).trans rfl
  refine wp_region_list ?_
  unfold rDD7
  have r_14 : (execOp x_13.eval oQG8).run Try.prog (W2) = .ok (.value (.agg #[.int .i64 p, .int .i64 q])) (W2) := by
    unfold oQG8
    have e4 := (show x_13.eval (.tmp 4) = .pointer (some ⟨fb, 0, none⟩) from ((g_13.at_ 4).trans I0.s4))
    clear g_13 hQ h11
    generalize x_13.eval = ρ at *
    go_simp
  refine g_13.step 29 _ rfl (lb_ I0.size) (wn rfl) r_14 (fun x_14 g_14 => ?_)
  clear r_14 g_13
  have r_15 : (execOp x_14.eval oQG9).run Try.prog (W2) = .ok (.value (.pointer (some ⟨W1.heap.size, 3, none⟩))) (W2) := by
    unfold oQG9
    have e12 : x_14.eval (.tmp 12) = .pointer (some ⟨W1.heap.size, 0, none⟩) := g_14.at_ 12
    clear g_14 hQ h11
    generalize x_14.eval = ρ at *
    go_simp
  refine g_14.step 30 _ rfl (lb_ I0.size) (wn rfl) r_15 (fun x_15 g_15 => ?_)
  clear r_15 g_14
  have r_16 : (execOp x_15.eval oQG10).run Try.prog (W2) = .ok (.value (.string bd)) (W2) := by
    unfold oQG10
    have e30 : x_15.eval (.tmp 30) = .pointer (some ⟨W1.heap.size, 3, none⟩) := g_15.at_ 30
    clear g_15 hQ h11
    generalize x_15.eval = ρ at *
    go_simp
  refine g_15.step 31 _ rfl (lb_ I0.size) (wn rfl) r_16 (fun x_16 g_16 => ?_)
  clear r_16 g_15
  have r_17 : (execOp x_16.eval oQG11).run Try.prog (W2) = .ok (.enter 24 #[.agg #[.int .i64 p, .int .i64 q], .string bd]) (W2) := by
    unfold oQG11
    have kf : ∀ f, x_16.eval (.func f) = .func (.func f) #[] #[] := fun _ => rfl
    have e29 : x_16.eval (.tmp 29) = .agg #[.int .i64 p, .int .i64 q] := g_16.at_ 29
    have e31 : x_16.eval (.tmp 31) = .string bd := g_16.at_ 31
    clear g_16 hQ h11
    generalize x_16.eval = ρ at *
    go_simp
  refine g_16.call 32 rfl (lb_ I0.size) (wn rfl) r_17 (kB W2 s2) (fun e W4 hR => ?_)
  obtain ⟨⟨xa, xc, rfl, o4⟩, s4⟩ := hR
  clear r_17
  refine ⟨_, rfl, fun x_17 g_17 => ?_⟩
  clear g_16
  refine g_17.move 28 (.tuple #[.int .u32 (nx : Int), .slice xa ns.length xc, .int .i64 e2]) _ (Or.inl rfl) rfl (lb_ I0.size) (wn rfl) (g_17.at_ 32) (fun x_18 g_18 => ?_)
  clear g_17
  have r_19 : (execOp x_18.eval oQG12).run Try.prog (W4) = .ok (.value (.int .u32 (nx : Int))) (W4) := by
    unfold oQG12
    have e28 : x_18.eval (.tmp 28) = .tuple #[.int .u32 (nx : Int), .slice xa ns.length xc, .int .i64 e2] := g_18.at_ 28
    clear g_18 hQ h11
    generalize x_18.eval = ρ at *
    go_simp
  refine g_18.step 33 _ rfl (lb_ I0.size) (wn rfl) r_19 (fun x_19 g_19 => ?_)
  clear r_19 g_18
  have r_20 : (execOp x_19.eval oQG13).run Try.prog (W4) = .ok (.value (.slice xa ns.length xc)) (W4) := by
    unfold oQG13
    have e28 : x_19.eval (.tmp 28) = .tuple #[.int .u32 (nx : Int), .slice xa ns.length xc, .int .i64 e2] := g_19.at_ 28
    clear g_19 hQ h11
    generalize x_19.eval = ρ at *
    go_simp
  refine g_19.step 34 _ rfl (lb_ I0.size) (wn rfl) r_20 (fun x_20 g_20 => ?_)
  clear r_20 g_19
  have r_21 : (execOp x_20.eval oQG14).run Try.prog (W4) = .ok (.value (.int .i64 e2)) (W4) := by
    unfold oQG14
    have e28 : x_20.eval (.tmp 28) = .tuple #[.int .u32 (nx : Int), .slice xa ns.length xc, .int .i64 e2] := g_20.at_ 28
    clear g_20 hQ h11
    generalize x_20.eval = ρ at *
    go_simp
  refine g_20.step 35 _ rfl (lb_ I0.size) (wn rfl) r_21 (fun x_21 g_21 => ?_)
  clear r_21 g_20
  refine g_21.move 14 (.int .u32 (nx : Int)) _ (Or.inr rfl) rfl (lb_ I0.size) (wn rfl) (g_21.at_ 33) (fun x_22 g_22 => ?_)
  clear g_21
  refine g_22.move 15 (.slice xa ns.length xc) _ (Or.inr rfl) rfl (lb_ I0.size) (wn rfl) (g_22.at_ 34) (fun x_23 g_23 => ?_)
  clear g_22
  refine g_23.move 16 (.int .i64 e2) _ (Or.inr rfl) rfl (lb_ I0.size) (wn rfl) (g_23.at_ 35) (fun x_24 g_24 => ?_)
  clear g_23
  refine wpList_nil ?_
  have t0 : W4.cell? ⟨W1.heap.size, 0, none⟩ = some (.int .u8 3) := s4.keep ((cell_of_row _ _ _ _ _ _ r2).trans rfl)
  have s24 : Same wr W4 := s2.trans s4
  change Code.wp _ _ _ _ _
  refine wp_seq (wp_seq ?_)
  refine wp_region_list ?_
  unfold rDD8
  have r_25 : (execOp x_24.eval oQG15).run Try.prog (W4) = .ok (.value (.pointer (some ⟨W1.heap.size, 0, none⟩))) (W4) := by
    unfold oQG15
    have e12 : x_24.eval (.tmp 12) = .pointer (some ⟨W1.heap.size, 0, none⟩) := g_24.at_ 12
    clear g_24 hQ h11
    generalize x_24.eval = ρ at *
    go_simp
  refine g_24.step 36 _ rfl (lb_ I0.size) (wn rfl) r_25 (fun x_25 g_25 => ?_)
  clear r_25 g_24
  have r_26 : (execOp x_25.eval oQG16).run Try.prog (W4) = .ok (.value (.int .u8 3)) (W4) := by
    unfold oQG16
    have e36 : x_25.eval (.tmp 36) = .pointer (some ⟨W1.heap.size, 0, none⟩) := g_25.at_ 36
    clear g_25 hQ h11
    generalize x_25.eval = ρ at *
    go_simp
  refine g_25.step 37 _ rfl (lb_ I0.size) (wn rfl) r_26 (fun x_26 g_26 => ?_)
  clear r_26 g_25
  have r_27 : (execOp x_26.eval oQG17).run Try.prog (W4) = .ok (.value (.int .i64 3)) (W4) := by
    unfold oQG17
    have e37 : x_26.eval (.tmp 37) = .int .u8 3 := g_26.at_ 37
    clear g_26 hQ h11
    generalize x_26.eval = ρ at *
    go_simp
  refine g_26.step 38 _ rfl (lb_ I0.size) (wn rfl) r_27 (fun x_27 g_27 => ?_)
  clear r_27 g_26
  have r_28 : (execOp x_27.eval oQG18).run Try.prog (W4) = .ok (.value (.bool false)) (W4) := by
    unfold oQG18
    have kc : ∀ v, x_27.eval (.const v) = v := fun _ => rfl
    have e38 : x_27.eval (.tmp 38) = .int .i64 3 := g_27.at_ 38
    clear g_27 hQ h11
    generalize x_27.eval = ρ at *
    go_simp
  refine g_27.step 39 _ rfl (lb_ I0.size) (wn rfl) r_28 (fun x_28 g_28 => ?_)
  clear r_28 g_27
  refine g_28.move 40 (.bool false) _ (Or.inl rfl) rfl (lb_ I0.size) (wn rfl) (g_28.at_ 39) (fun x_29 g_29 => ?_)
  clear g_28
  refine g_29.move 41 (.int .i64 e2) _ (Or.inl rfl) rfl (lb_ I0.size) ((wanted_at (t := 40) (c := false) (b := false) rfl rfl rfl (lb_ (g_29.size.trans I0.size)) (g_29.at_ 40)).trans (by rfl)) (g_29.at_ 16) (fun x_30 g_30 => ?_)
  clear g_29
  have r_31 : (execOp x_30.eval oQG19).run Try.prog (W4) = .ok (.value (.bool true)) (W4) := by
    unfold oQG19
    have kc : ∀ v, x_30.eval (.const v) = v := fun _ => rfl
    have e41 : x_30.eval (.tmp 41) = .int .i64 e2 := g_30.at_ 41
    clear g_30 hQ h11
    generalize x_30.eval = ρ at *
    go_simp
  refine g_30.step 42 _ rfl (lb_ I0.size) ((wanted_at (t := 40) (c := false) (b := false) rfl rfl rfl (lb_ (g_30.size.trans I0.size)) (g_30.at_ 40)).trans (by rfl)) r_31 (fun x_31 g_31 => ?_)
  clear r_31 g_30
  have r_32 : (execOp x_31.eval oQG20).run Try.prog (W4) = .ok (.value (.bool true)) (W4) := by
    unfold oQG20
    have kc : ∀ v, x_31.eval (.const v) = v := fun _ => rfl
    have e40 : x_31.eval (.tmp 40) = .bool false := g_31.at_ 40
    have e42 : x_31.eval (.tmp 42) = .bool true := g_31.at_ 42
    clear g_31 hQ h11
    generalize x_31.eval = ρ at *
    go_simp
  refine g_31.step 43 _ rfl (lb_ I0.size) (wn rfl) r_32 (fun x_32 g_32 => ?_)
  clear r_32 g_31
  refine wpList_nil ?_
  change Code.wp _ _ _ _ _
  refine wp_cond_true (show x_32.eval (.tmp 43) = .bool true from (g_32.at_ 43)) (wp_seq ?_)
  refine wp_region_list ?_
  unfold rDD9
  refine g_32.move 8 (.slice none 0 0) _ (Or.inr rfl) rfl (lb_ I0.size) (wn rfl) rfl (fun x_33 g_33 => ?_)
  clear g_32
  refine g_33.move 9 (.int .i64 8) _ (Or.inr rfl) rfl (lb_ I0.size) (wn rfl) rfl (fun x_34 g_34 => ?_)
  clear g_33
  refine wpList_nil ?_
  change Code.wp _ _ _ _ _
  refine wp_ret ?_
  exact hQ x_34 W4 (g_34.defers.trans I0.defers) (show x_34.eval (.tmp 8) = .slice none 0 0 from (g_34.at_ 8)) (show x_34.eval (.tmp 9) = .int .i64 8 from (g_34.at_ 9)) s24
set_option maxRecDepth 100000 in
set_option maxHeartbeats 1000000 in
theorem dd_d {p q : Int} {fb at_ n cp pages no vr nx l cc : Nat} {pa ao : Option Addr} {bd : ByteArray} {ns : List Nat} {f : Nat → Bool} {acc : List (Nat × List Nat)} {N : List Bt} {Q : Exit → Act → World → Prop} (a0 : Act) (w V wr : World) (I0 : IDD (.slice pa n cp) (.int .u32 (pages : Int)) fb a0) (h10 : a0.eval (.tmp 10) = .slice ao l cc) (h11 : a0.eval (.tmp 11) = .int .u32 (at_ : Int)) (h0 : at_ ≠ 0) (d0 : wr.cell? ⟨fb, 0, none⟩ = some (.int .i64 p)) (d1 : wr.cell? ⟨fb, 1, none⟩ = some (.int .i64 q))
    (dv0 : V.cell? ⟨fb, 0, none⟩ = some (.int .i64 p)) (dv1 : V.cell? ⟨fb, 1, none⟩ = some (.int .i64 q)) (hw : DRw w V wr p q pages f acc ao cc N) (hwV : w.heap.size ≤ V.heap.size) (hl : N.length = l) (hok : okR p q pages f at_ ns = false) (hns : ∀ y ∈ ns, y < 4294967296) (hat : at_ < 4294967296) (hnl : ns.length ≤ 70000) (hpg : pages ≤ 65536) (hlb : l ≤ 70000)
    (kF : ∀ Z, Same wr Z → Calls Try.prog 23 #[.slice pa n cp, .int .u32 (at_ : Int)] Z fun e w' => e = .returned (.tuple #[.agg #[.int .u8 3, .int .u32 (no : Int), .int .u64 (vr : Int), .string bd], .bool true]) ∧ Same Z w')
    (kB : ∀ Z, Same wr Z → Calls Try.prog 24 #[.agg #[.int .i64 p, .int .i64 q], .string bd] Z fun e w' => (∃ xa xc, e = .returned (.tuple #[.int .u32 (nx : Int), .slice xa ns.length xc, .int .i64 0]) ∧ w'.ownsRow Z.heap.size 28 1 (.slice xa ns.length xc) ns.length (ncells ns)) ∧ Same Z w')
    (hQ : ∀ a W, a.defers = [] → a.eval (.tmp 8) = .slice none 0 0 → a.eval (.tmp 9) = .int .i64 8 → Same V W → Q .ret a W) : cDD1.wp Try.prog Q a0 wr := by
  have hai : ¬ (at_ : Int) = 0 := by omega
  have had : ((at_ : Int) == 0) = false := by simpa using hai
  have h0n : ¬ at_ = 0 := h0
  have wk3 : IntKind.i64.wrap 3 = 3 := by decide
  have g_0 := Fe.refl a0
  unfold cDD1
  refine wp_seq (wp_seq ?_)
  refine wp_region_list ?_
  unfold rDD3
  refine g_0.move 18 (.int .u32 (at_ : Int)) _ (Or.inl rfl) rfl (lb_ I0.size) (wn rfl) ((g_0.at_ 11).trans h11) (fun x_1 g_1 => ?_)
  clear g_0
  have r_2 : (execOp x_1.eval oQG1).run Try.prog (wr) = .ok (.value (.bool true)) (wr) := by
    unfold oQG1
    have kc : ∀ v, x_1.eval (.const v) = v := fun _ => rfl
    have e18 : x_1.eval (.tmp 18) = .int .u32 (at_ : Int) := g_1.at_ 18
    clear g_1 hQ h11 h10
    generalize x_1.eval = ρ at *
    go_simp
  refine g_1.step 19 _ rfl (lb_ I0.size) (wn rfl) r_2 (fun x_2 g_2 => ?_)
  clear r_2 g_1
  refine wpList_nil ?_
  change Code.wp _ _ _ _ _
  refine wp_cond_true (show x_2.eval (.tmp 19) = .bool true from (g_2.at_ 19)) (wp_skip ?_)
  change Code.wp _ _ _ _ _
  refine wp_block (wp_seq ?_)
  refine wp_region_list ?_
  unfold rDD4
  refine g_2.move 21 (.slice pa n cp) _ (Or.inl rfl) rfl (lb_ I0.size) (wn rfl) ((g_2.at_ 1).trans I0.s1) (fun x_3 g_3 => ?_)
  clear g_2
  refine g_3.move 22 (.int .u32 (at_ : Int)) _ (Or.inl rfl) rfl (lb_ I0.size) (wn rfl) ((g_3.at_ 11).trans h11) (fun x_4 g_4 => ?_)
  clear g_3
  have r_5 : (execOp x_4.eval oQG2).run Try.prog (wr) = .ok (.enter 23 #[.slice pa n cp, .int .u32 (at_ : Int)]) (wr) := by
    unfold oQG2
    have kf : ∀ f, x_4.eval (.func f) = .func (.func f) #[] #[] := fun _ => rfl
    have e21 : x_4.eval (.tmp 21) = .slice pa n cp := g_4.at_ 21
    have e22 : x_4.eval (.tmp 22) = .int .u32 (at_ : Int) := g_4.at_ 22
    clear g_4 hQ h11 h10
    generalize x_4.eval = ρ at *
    go_simp
  refine g_4.call 23 rfl (lb_ I0.size) (wn rfl) r_5 (kF wr (Fr.refl _ wr)) (fun e W1 hR => ?_)
  obtain ⟨rfl, s1⟩ := hR
  clear r_5
  refine ⟨_, rfl, fun x_5 g_5 => ?_⟩
  clear g_4
  refine g_5.move 20 (.tuple #[.agg #[.int .u8 3, .int .u32 (no : Int), .int .u64 (vr : Int), .string bd], .bool true]) _ (Or.inl rfl) rfl (lb_ I0.size) (wn rfl) (g_5.at_ 23) (fun x_6 g_6 => ?_)
  clear g_5
  have r_7 : (execOp x_6.eval oQG3).run Try.prog (W1) = .ok (.value (.agg #[.int .u8 3, .int .u32 (no : Int), .int .u64 (vr : Int), .string bd])) (W1) := by
    unfold oQG3
    have e20 : x_6.eval (.tmp 20) = .tuple #[.agg #[.int .u8 3, .int .u32 (no : Int), .int .u64 (vr : Int), .string bd], .bool true] := g_6.at_ 20
    clear g_6 hQ h11 h10
    generalize x_6.eval = ρ at *
    go_simp
  refine g_6.step 24 _ rfl (lb_ I0.size) (wn rfl) r_7 (fun x_7 g_7 => ?_)
  clear r_7 g_6
  have r_8 : (execOp x_7.eval oQG4).run Try.prog (W1) = .ok (.value (.bool true)) (W1) := by
    unfold oQG4
    have e20 : x_7.eval (.tmp 20) = .tuple #[.agg #[.int .u8 3, .int .u32 (no : Int), .int .u64 (vr : Int), .string bd], .bool true] := g_7.at_ 20
    clear g_7 hQ h11 h10
    generalize x_7.eval = ρ at *
    go_simp
  refine g_7.step 25 _ rfl (lb_ I0.size) (wn rfl) r_8 (fun x_8 g_8 => ?_)
  clear r_8 g_7
  have r_9 : (execOp x_8.eval oQG5).run Try.prog (W1) = .ok (.value (.pointer (some ⟨W1.heap.size, 0, none⟩))) (W1.alloc (.cells #[.int .u8 0, .int .u32 0, .int .u64 0, .string ⟨#[]⟩] 76)) := by
    unfold oQG5
    clear g_8 hQ h11 h10
    generalize x_8.eval = ρ at *
    go_simp
  refine g_8.stepW 12 (.pointer (some ⟨W1.heap.size, 0, none⟩)) rfl (lb_ I0.size) (wn rfl) r_9 (fun x_9 g_9 => ?_)
  clear r_9 g_8
  have r_10 : (execOp x_9.eval oQG6).run Try.prog (W1.alloc (.cells #[.int .u8 0, .int .u32 0, .int .u64 0, .string ⟨#[]⟩] 76)) = .ok .skip (W1.alloc (.cells #[.int .u8 3, .int .u32 (no : Int), .int .u64 (vr : Int), .string bd] 76)) := by
    unfold oQG6
    have e12 : x_9.eval (.tmp 12) = .pointer (some ⟨W1.heap.size, 0, none⟩) := g_9.at_ 12
    have e24 : x_9.eval (.tmp 24) = .agg #[.int .u8 3, .int .u32 (no : Int), .int .u64 (vr : Int), .string bd] := g_9.at_ 24
    clear g_9 hQ h11 h10
    generalize x_9.eval = ρ at *
    go_simp
  refine g_9.store rfl (wn rfl) r_10 (fun x_10 g_10 => ?_)
  clear r_10 g_9
  refine g_10.move 13 (.bool true) _ (Or.inr rfl) rfl (lb_ I0.size) (wn rfl) (g_10.at_ 25) (fun x_11 g_11 => ?_)
  clear g_10
  refine wpList_nil ?_
  obtain ⟨W2, hW2⟩ : ∃ W2, W2 = W1.alloc (.cells #[.int .u8 3, .int .u32 (no : Int), .int .u64 (vr : Int), .string bd] 76) := ⟨_, rfl⟩
  rw [← hW2]
  have s2 : Same wr W2 := by rw [hW2]; exact s1.alloc _
  have r2 : W2.heap[W1.heap.size]? = some (.cells #[.int .u8 3, .int .u32 (no : Int), .int .u64 (vr : Int), .string bd] 76 (0, 0)) := by rw [hW2]; exact heap_alloc_new W1 _
  clear hW2
  change Code.wp _ _ _ _ _
  refine wp_seq (wp_seq ?_)
  refine wp_region_list ?_
  unfold rDD5
  refine g_11.move 26 (.bool true) _ (Or.inl rfl) rfl (lb_ I0.size) (wn rfl) (g_11.at_ 13) (fun x_12 g_12 => ?_)
  clear g_11
  have r_13 : (execOp x_12.eval oQG7).run Try.prog (W2) = .ok (.value (.bool false)) (W2) := by
    unfold oQG7
    have e26 : x_12.eval (.tmp 26) = .bool true := g_12.at_ 26
    clear g_12 hQ h11 h10
    generalize x_12.eval = ρ at *
    go_simp
  refine g_12.step 27 _ rfl (lb_ I0.size) (wn rfl) r_13 (fun x_13 g_13 => ?_)
  clear r_13 g_12
  refine wpList_nil ?_
  change Code.wp _ _ _ _ _
  refine wp_cond_false (show x_13.eval (.tmp 27) = .bool false from (g_13.at_ 27)) (wp_skip ?_)
  change Code.wp _ _ _ _ _
  refine wp_seq ?_
  have d0x := s2.keep d0
  have d1x := s2.keep d1
  have t3 : W2.cell? ⟨W1.heap.size, 3, none⟩ = some (.string bd) := (cell_of_row _ _ _ _ _ _ r2).trans rfl
  refine wp_region_list ?_
  unfold rDD7
  have r_14 : (execOp x_13.eval oQG8).run Try.prog (W2) = .ok (.value (.agg #[.int .i64 p, .int .i64 q])) (W2) := by
    unfold oQG8
    have e4 := (show x_13.eval (.tmp 4) = .pointer (some ⟨fb, 0, none⟩) from ((g_13.at_ 4).trans I0.s4))
    clear g_13 hQ h11 h10
    generalize x_13.eval = ρ at *
    go_simp
  refine g_13.step 29 _ rfl (lb_ I0.size) (wn rfl) r_14 (fun x_14 g_14 => ?_)
  clear r_14 g_13
  have r_15 : (execOp x_14.eval oQG9).run Try.prog (W2) = .ok (.value (.pointer (some ⟨W1.heap.size, 3, none⟩))) (W2) := by
    unfold oQG9
    have e12 : x_14.eval (.tmp 12) = .pointer (some ⟨W1.heap.size, 0, none⟩) := g_14.at_ 12
    clear g_14 hQ h11 h10
    generalize x_14.eval = ρ at *
    go_simp
  refine g_14.step 30 _ rfl (lb_ I0.size) (wn rfl) r_15 (fun x_15 g_15 => ?_)
  clear r_15 g_14
  have r_16 : (execOp x_15.eval oQG10).run Try.prog (W2) = .ok (.value (.string bd)) (W2) := by
    unfold oQG10
    have e30 : x_15.eval (.tmp 30) = .pointer (some ⟨W1.heap.size, 3, none⟩) := g_15.at_ 30
    clear g_15 hQ h11 h10
    generalize x_15.eval = ρ at *
    go_simp
  refine g_15.step 31 _ rfl (lb_ I0.size) (wn rfl) r_16 (fun x_16 g_16 => ?_)
  clear r_16 g_15
  have r_17 : (execOp x_16.eval oQG11).run Try.prog (W2) = .ok (.enter 24 #[.agg #[.int .i64 p, .int .i64 q], .string bd]) (W2) := by
    unfold oQG11
    have kf : ∀ f, x_16.eval (.func f) = .func (.func f) #[] #[] := fun _ => rfl
    have e29 : x_16.eval (.tmp 29) = .agg #[.int .i64 p, .int .i64 q] := g_16.at_ 29
    have e31 : x_16.eval (.tmp 31) = .string bd := g_16.at_ 31
    clear g_16 hQ h11 h10
    generalize x_16.eval = ρ at *
    go_simp
  refine g_16.call 32 rfl (lb_ I0.size) (wn rfl) r_17 (kB W2 s2) (fun e W4 hR => ?_)
  obtain ⟨⟨xa, xc, rfl, o4⟩, s4⟩ := hR
  clear r_17
  refine ⟨_, rfl, fun x_17 g_17 => ?_⟩
  clear g_16
  refine g_17.move 28 (.tuple #[.int .u32 (nx : Int), .slice xa ns.length xc, .int .i64 0]) _ (Or.inl rfl) rfl (lb_ I0.size) (wn rfl) (g_17.at_ 32) (fun x_18 g_18 => ?_)
  clear g_17
  have r_19 : (execOp x_18.eval oQG12).run Try.prog (W4) = .ok (.value (.int .u32 (nx : Int))) (W4) := by
    unfold oQG12
    have e28 : x_18.eval (.tmp 28) = .tuple #[.int .u32 (nx : Int), .slice xa ns.length xc, .int .i64 0] := g_18.at_ 28
    clear g_18 hQ h11 h10
    generalize x_18.eval = ρ at *
    go_simp
  refine g_18.step 33 _ rfl (lb_ I0.size) (wn rfl) r_19 (fun x_19 g_19 => ?_)
  clear r_19 g_18
  have r_20 : (execOp x_19.eval oQG13).run Try.prog (W4) = .ok (.value (.slice xa ns.length xc)) (W4) := by
    unfold oQG13
    have e28 : x_19.eval (.tmp 28) = .tuple #[.int .u32 (nx : Int), .slice xa ns.length xc, .int .i64 0] := g_19.at_ 28
    clear g_19 hQ h11 h10
    generalize x_19.eval = ρ at *
    go_simp
  refine g_19.step 34 _ rfl (lb_ I0.size) (wn rfl) r_20 (fun x_20 g_20 => ?_)
  clear r_20 g_19
  have r_21 : (execOp x_20.eval oQG14).run Try.prog (W4) = .ok (.value (.int .i64 0)) (W4) := by
    unfold oQG14
    have e28 : x_20.eval (.tmp 28) = .tuple #[.int .u32 (nx : Int), .slice xa ns.length xc, .int .i64 0] := g_20.at_ 28
    clear g_20 hQ h11 h10
    generalize x_20.eval = ρ at *
    go_simp
  refine g_20.step 35 _ rfl (lb_ I0.size) (wn rfl) r_21 (fun x_21 g_21 => ?_)
  clear r_21 g_20
  refine g_21.move 14 (.int .u32 (nx : Int)) _ (Or.inr rfl) rfl (lb_ I0.size) (wn rfl) (g_21.at_ 33) (fun x_22 g_22 => ?_)
  clear g_21
  refine g_22.move 15 (.slice xa ns.length xc) _ (Or.inr rfl) rfl (lb_ I0.size) (wn rfl) (g_22.at_ 34) (fun x_23 g_23 => ?_)
  clear g_22
  refine g_23.move 16 (.int .i64 0) _ (Or.inr rfl) rfl (lb_ I0.size) (wn rfl) (g_23.at_ 35) (fun x_24 g_24 => ?_)
  clear g_23
  refine wpList_nil ?_
  have t0 : W4.cell? ⟨W1.heap.size, 0, none⟩ = some (.int .u8 3) := s4.keep ((cell_of_row _ _ _ _ _ _ r2).trans rfl)
  have s24 : Same wr W4 := s2.trans s4
  change Code.wp _ _ _ _ _
  refine wp_seq (wp_seq ?_)
  refine wp_region_list ?_
  unfold rDD8
  have r_25 : (execOp x_24.eval oQG15).run Try.prog (W4) = .ok (.value (.pointer (some ⟨W1.heap.size, 0, none⟩))) (W4) := by
    unfold oQG15
    have e12 : x_24.eval (.tmp 12) = .pointer (some ⟨W1.heap.size, 0, none⟩) := g_24.at_ 12
    clear g_24 hQ h11 h10
    generalize x_24.eval = ρ at *
    go_simp
  refine g_24.step 36 _ rfl (lb_ I0.size) (wn rfl) r_25 (fun x_25 g_25 => ?_)
  clear r_25 g_24
  have r_26 : (execOp x_25.eval oQG16).run Try.prog (W4) = .ok (.value (.int .u8 3)) (W4) := by
    unfold oQG16
    have e36 : x_25.eval (.tmp 36) = .pointer (some ⟨W1.heap.size, 0, none⟩) := g_25.at_ 36
    clear g_25 hQ h11 h10
    generalize x_25.eval = ρ at *
    go_simp
  refine g_25.step 37 _ rfl (lb_ I0.size) (wn rfl) r_26 (fun x_26 g_26 => ?_)
  clear r_26 g_25
  have r_27 : (execOp x_26.eval oQG17).run Try.prog (W4) = .ok (.value (.int .i64 3)) (W4) := by
    unfold oQG17
    have e37 : x_26.eval (.tmp 37) = .int .u8 3 := g_26.at_ 37
    clear g_26 hQ h11 h10
    generalize x_26.eval = ρ at *
    go_simp
  refine g_26.step 38 _ rfl (lb_ I0.size) (wn rfl) r_27 (fun x_27 g_27 => ?_)
  clear r_27 g_26
  have r_28 : (execOp x_27.eval oQG18).run Try.prog (W4) = .ok (.value (.bool false)) (W4) := by
    unfold oQG18
    have kc : ∀ v, x_27.eval (.const v) = v := fun _ => rfl
    have e38 : x_27.eval (.tmp 38) = .int .i64 3 := g_27.at_ 38
    clear g_27 hQ h11 h10
    generalize x_27.eval = ρ at *
    go_simp
  refine g_27.step 39 _ rfl (lb_ I0.size) (wn rfl) r_28 (fun x_28 g_28 => ?_)
  clear r_28 g_27
  refine g_28.move 40 (.bool false) _ (Or.inl rfl) rfl (lb_ I0.size) (wn rfl) (g_28.at_ 39) (fun x_29 g_29 => ?_)
  clear g_28
  refine g_29.move 41 (.int .i64 0) _ (Or.inl rfl) rfl (lb_ I0.size) ((wanted_at (t := 40) (c := false) (b := false) rfl rfl rfl (lb_ (g_29.size.trans I0.size)) (g_29.at_ 40)).trans (by rfl)) (g_29.at_ 16) (fun x_30 g_30 => ?_)
  clear g_29
  have r_31 : (execOp x_30.eval oQG19).run Try.prog (W4) = .ok (.value (.bool false)) (W4) := by
    unfold oQG19
    have kc : ∀ v, x_30.eval (.const v) = v := fun _ => rfl
    have e41 : x_30.eval (.tmp 41) = .int .i64 0 := g_30.at_ 41
    clear g_30 hQ h11 h10
    generalize x_30.eval = ρ at *
    go_simp
  refine g_30.step 42 _ rfl (lb_ I0.size) ((wanted_at (t := 40) (c := false) (b := false) rfl rfl rfl (lb_ (g_30.size.trans I0.size)) (g_30.at_ 40)).trans (by rfl)) r_31 (fun x_31 g_31 => ?_)
  clear r_31 g_30
  have r_32 : (execOp x_31.eval oQG20).run Try.prog (W4) = .ok (.value (.bool false)) (W4) := by
    unfold oQG20
    have kc : ∀ v, x_31.eval (.const v) = v := fun _ => rfl
    have e40 : x_31.eval (.tmp 40) = .bool false := g_31.at_ 40
    have e42 : x_31.eval (.tmp 42) = .bool false := g_31.at_ 42
    clear g_31 hQ h11 h10
    generalize x_31.eval = ρ at *
    go_simp
  refine g_31.step 43 _ rfl (lb_ I0.size) (wn rfl) r_32 (fun x_32 g_32 => ?_)
  clear r_32 g_31
  refine wpList_nil ?_
  change Code.wp _ _ _ _ _
  refine wp_cond_false (show x_32.eval (.tmp 43) = .bool false from (g_32.at_ 43)) (wp_skip ?_)
  change Code.wp _ _ _ _ _
  refine wp_seq ?_
  have rN := own_frameB hw.row s24 (fun _ _ e => e)
  rw [hl] at rN
  refine wp_region_list ?_
  unfold rDD10
  refine g_32.move 44 (.slice ao l cc) _ (Or.inl rfl) rfl (lb_ I0.size) (wn rfl) ((g_32.at_ 10).trans h10) (fun x_33 g_33 => ?_)
  clear g_32
  refine g_33.move 45 (.int .u32 (at_ : Int)) _ (Or.inl rfl) rfl (lb_ I0.size) (wn rfl) ((g_33.at_ 11).trans h11) (fun x_34 g_34 => ?_)
  clear g_33
  refine g_34.move 46 (.slice xa ns.length xc) _ (Or.inl rfl) rfl (lb_ I0.size) (wn rfl) (g_34.at_ 15) (fun x_35 g_35 => ?_)
  clear g_34
  have r_36 : (execOp x_35.eval oQG21).run Try.prog (W4) = .ok (.value (.agg #[.int .u32 (at_ : Int), .slice xa ns.length xc])) (W4) := by
    unfold oQG21
    have e45 : x_35.eval (.tmp 45) = .int .u32 (at_ : Int) := g_35.at_ 45
    have e46 : x_35.eval (.tmp 46) = .slice xa ns.length xc := g_35.at_ 46
    clear g_35 hQ h11 h10
    generalize x_35.eval = ρ at *
    go_simp
  refine g_35.step 47 _ rfl (lb_ I0.size) (wn rfl) r_36 (fun x_36 g_36 => ?_)
  clear r_36 g_35
  have r_37 : (execOp x_36.eval oQG22).run Try.prog (W4) = .ok (.value (.slice (some ⟨W4.heap.size, 0, none⟩) 1 1)) (W4.alloc (.cells #[.int .u32 (at_ : Int), .slice xa ns.length xc] 53)) := by
    unfold oQG22
    have e47 : x_36.eval (.tmp 47) = .agg #[.int .u32 (at_ : Int), .slice xa ns.length xc] := g_36.at_ 47
    clear g_36 hQ h11 h10
    generalize x_36.eval = ρ at *
    go_simp
  refine g_36.stepW 48 (.slice (some ⟨W4.heap.size, 0, none⟩) 1 1) rfl (lb_ I0.size) (wn rfl) r_37 (fun x_37 g_37 => ?_)
  clear r_37
  obtain ⟨W5, hW5⟩ : ∃ W5, W5 = W4.alloc (.cells #[.int .u32 (at_ : Int), .slice xa ns.length xc] 53) := ⟨_, rfl⟩
  rw [← hW5]
  have s5 : Same W4 W5 := by rw [hW5]; exact (Fr.refl _ W4).alloc _
  have hh5 : W5.heap[W4.heap.size]? = some (.cells [.int .u32 (at_ : Int), .slice xa ns.length xc].toArray 53 (0, 0)) := by rw [hW5]; exact heap_alloc_new W4 _
  obtain ⟨a6, c6, W6, hr6, o6, g6⟩ := run_mB W5 30 (own_frameB rN s5 (fun _ _ e => e)) 1 (row_news hh5) rfl rfl (by omega) (Nat.le_trans hw.same.size (Nat.le_trans s24.size s5.size))
  rw [← hl] at g6 o6
  obtain ⟨b, hbp, hbn, s6, o7, nw, hlt⟩ := hw.app (p := p) (q := q) hwV (s24.trans s5) (own_frameB (own_base o4 s2.size) s5 (fun _ _ e => e)) hat hns g6 o6
  have hl2 : (N ++ [b]).length = l + 1 := by rw [List.length_append, hl]; rfl
  obtain ⟨gv, bv⟩ := new_bv o7 nw hlt
  have hdr := dR_app (p := p) (q := q) (pages := pages) N (fun _ => false) b
  rw [hw.dr, ← hw.fs, hbp, hbn, hok, Bool.true_and] at hdr
  have hwt2 : wt (N ++ [b]) ≤ 2000000 := by
    have e1 := hw.cnt
    have e2 : wt (N ++ [b]) = wt N + (b.ns.length + 1) := by rw [wt_wtK, wt_wtK, List.map_append]; exact wtK_app _ _
    have e3 := wt_wtK N
    rw [hw.key] at e3
    rw [e2, hbn]
    omega
  have kR := right_calls (p := p) (q := q) (pages := pages) (cp := c6) W6 bv rfl hwt2 hpg
  rw [hdr, hl2] at kR
  have d0y := s6.keep dv0
  have d1y := s6.keep dv1
  clear g_36
  have r_38 : (execOp x_37.eval oQG23).run Try.prog (W5) = .ok (.value (.slice a6 (l + 1) c6)) (W6) := by
    unfold oQG23
    refine exec_append rfl ?_
    rw [(show x_37.eval (.tmp 44) = .slice ao l cc from (g_37.at_ 44)), (show x_37.eval (.tmp 48) = .slice (some ⟨W4.heap.size, 0, none⟩) 1 1 from (g_37.at_ 48))]
    exact hr6
  refine g_37.stepW 49 (.slice a6 (l + 1) c6) rfl (lb_ I0.size) (wn rfl) r_38 (fun x_38 g_38 => ?_)
  clear r_38 g_37
  refine g_38.move 10 (.slice a6 (l + 1) c6) _ (Or.inr rfl) rfl (lb_ I0.size) (wn rfl) (g_38.at_ 49) (fun x_39 g_39 => ?_)
  clear g_38
  refine wpList_nil ?_
  change Code.wp _ _ _ _ _
  refine wp_seq (wp_seq ?_)
  refine wp_region_list ?_
  unfold rDD11
  have r_40 : (execOp x_39.eval oQG24).run Try.prog (W6) = .ok (.value (.agg #[.int .i64 p, .int .i64 q])) (W6) := by
    unfold oQG24
    have e4 := (show x_39.eval (.tmp 4) = .pointer (some ⟨fb, 0, none⟩) from ((g_39.at_ 4).trans I0.s4))
    clear g_39 hQ h11 h10
    generalize x_39.eval = ρ at *
    go_simp
  refine g_39.step 50 _ rfl (lb_ I0.size) (wn rfl) r_40 (fun x_40 g_40 => ?_)
  clear r_40 g_39
  refine g_40.move 51 (.slice a6 (l + 1) c6) _ (Or.inl rfl) rfl (lb_ I0.size) (wn rfl) (g_40.at_ 10) (fun x_41 g_41 => ?_)
  clear g_40
  refine g_41.move 52 (.int .u32 (pages : Int)) _ (Or.inl rfl) rfl (lb_ I0.size) (wn rfl) ((g_41.at_ 3).trans I0.s3) (fun x_42 g_42 => ?_)
  clear g_41
  have r_43 : (execOp x_42.eval oQG25).run Try.prog (W6) = .ok (.enter 22 #[.agg #[.int .i64 p, .int .i64 q], .slice a6 (l + 1) c6, .int .u32 (pages : Int)]) (W6) := by
    unfold oQG25
    have kf : ∀ f, x_42.eval (.func f) = .func (.func f) #[] #[] := fun _ => rfl
    have e50 : x_42.eval (.tmp 50) = .agg #[.int .i64 p, .int .i64 q] := g_42.at_ 50
    have e51 : x_42.eval (.tmp 51) = .slice a6 (l + 1) c6 := g_42.at_ 51
    have e52 : x_42.eval (.tmp 52) = .int .u32 (pages : Int) := g_42.at_ 52
    clear g_42 hQ h11 h10
    generalize x_42.eval = ρ at *
    go_simp
  refine g_42.call 53 rfl (lb_ I0.size) (wn rfl) r_43 (kR) (fun e W7 hR => ?_)
  obtain ⟨rfl, s7⟩ := hR
  clear r_43
  refine ⟨_, rfl, fun x_43 g_43 => ?_⟩
  clear g_42
  have r_44 : (execOp x_43.eval oQG26).run Try.prog (W7) = .ok (.value (.bool true)) (W7) := by
    unfold oQG26
    have e53 : x_43.eval (.tmp 53) = .bool false := g_43.at_ 53
    clear g_43 hQ h11 h10
    generalize x_43.eval = ρ at *
    go_simp
  refine g_43.step 54 _ rfl (lb_ I0.size) (wn rfl) r_44 (fun x_44 g_44 => ?_)
  clear r_44 g_43
  refine wpList_nil ?_
  change Code.wp _ _ _ _ _
  refine wp_cond_true (show x_44.eval (.tmp 54) = .bool true from (g_44.at_ 54)) (wp_seq ?_)
  refine wp_region_list ?_
  unfold rDD12
  refine g_44.move 8 (.slice none 0 0) _ (Or.inr rfl) rfl (lb_ I0.size) (wn rfl) rfl (fun x_45 g_45 => ?_)
  clear g_44
  refine g_45.move 9 (.int .i64 8) _ (Or.inr rfl) rfl (lb_ I0.size) (wn rfl) rfl (fun x_46 g_46 => ?_)
  clear g_45
  refine wpList_nil ?_
  change Code.wp _ _ _ _ _
  refine wp_ret ?_
  exact hQ x_46 W7 (g_46.defers.trans I0.defers) (show x_46.eval (.tmp 8) = .slice none 0 0 from (g_46.at_ 8)) (show x_46.eval (.tmp 9) = .int .i64 8 from (g_46.at_ 9)) (s6.trans s7)
set_option maxRecDepth 100000 in
set_option maxHeartbeats 1000000 in
theorem dd_e {p q : Int} {fb at_ n cp pages no vr nx l cc : Nat} {pa ao : Option Addr} {bd : ByteArray} {ns : List Nat} {f : Nat → Bool} {acc : List (Nat × List Nat)} {N : List Bt} {Q : Exit → Act → World → Prop} (a0 : Act) (w V wr : World) (I0 : IDD (.slice pa n cp) (.int .u32 (pages : Int)) fb a0) (h10 : a0.eval (.tmp 10) = .slice ao l cc) (h11 : a0.eval (.tmp 11) = .int .u32 (at_ : Int)) (h0 : at_ ≠ 0) (d0 : wr.cell? ⟨fb, 0, none⟩ = some (.int .i64 p)) (d1 : wr.cell? ⟨fb, 1, none⟩ = some (.int .i64 q))
    (dv0 : V.cell? ⟨fb, 0, none⟩ = some (.int .i64 p)) (dv1 : V.cell? ⟨fb, 1, none⟩ = some (.int .i64 q)) (hw : DRw w V wr p q pages f acc ao cc N) (hwV : w.heap.size ≤ V.heap.size) (hl : N.length = l) (hok : okR p q pages f at_ ns = true) (hns : ∀ y ∈ ns, y < 4294967296) (hat : at_ < 4294967296) (hnl : ns.length ≤ 70000) (hpg : pages ≤ 65536) (hlb : l ≤ 70000)
    (kF : ∀ Z, Same wr Z → Calls Try.prog 23 #[.slice pa n cp, .int .u32 (at_ : Int)] Z fun e w' => e = .returned (.tuple #[.agg #[.int .u8 3, .int .u32 (no : Int), .int .u64 (vr : Int), .string bd], .bool true]) ∧ Same Z w')
    (kB : ∀ Z, Same wr Z → Calls Try.prog 24 #[.agg #[.int .i64 p, .int .i64 q], .string bd] Z fun e w' => (∃ xa xc, e = .returned (.tuple #[.int .u32 (nx : Int), .slice xa ns.length xc, .int .i64 0]) ∧ w'.ownsRow Z.heap.size 28 1 (.slice xa ns.length xc) ns.length (ncells ns)) ∧ Same Z w')
    (hQ : ∀ a W a6 c6 N2, IDD (.slice pa n cp) (.int .u32 (pages : Int)) fb a → a.eval (.tmp 10) = .slice a6 N2.length c6 → a.eval (.tmp 11) = .int .u32 (nx : Int) → DRw w V W p q pages (nxR f at_ ns) (acc ++ [(at_, ns)]) a6 c6 N2 → Q .normal a W) : cDD1.wp Try.prog Q a0 wr := by
  have hai : ¬ (at_ : Int) = 0 := by omega
  have had : ((at_ : Int) == 0) = false := by simpa using hai
  have h0n : ¬ at_ = 0 := h0
  have wk3 : IntKind.i64.wrap 3 = 3 := by decide
  have g_0 := Fe.refl a0
  unfold cDD1
  refine wp_seq (wp_seq ?_)
  refine wp_region_list ?_
  unfold rDD3
  refine g_0.move 18 (.int .u32 (at_ : Int)) _ (Or.inl rfl) rfl (lb_ I0.size) (wn rfl) ((g_0.at_ 11).trans h11) (fun x_1 g_1 => ?_)
  clear g_0
  have r_2 : (execOp x_1.eval oQG1).run Try.prog (wr) = .ok (.value (.bool true)) (wr) := by
    unfold oQG1
    have kc : ∀ v, x_1.eval (.const v) = v := fun _ => rfl
    have e18 : x_1.eval (.tmp 18) = .int .u32 (at_ : Int) := g_1.at_ 18
    clear g_1 hQ h11 h10
    generalize x_1.eval = ρ at *
    go_simp
  refine g_1.step 19 _ rfl (lb_ I0.size) (wn rfl) r_2 (fun x_2 g_2 => ?_)
  clear r_2 g_1
  refine wpList_nil ?_
  change Code.wp _ _ _ _ _
  refine wp_cond_true (show x_2.eval (.tmp 19) = .bool true from (g_2.at_ 19)) (wp_skip ?_)
  change Code.wp _ _ _ _ _
  refine wp_block (wp_seq ?_)
  refine wp_region_list ?_
  unfold rDD4
  refine g_2.move 21 (.slice pa n cp) _ (Or.inl rfl) rfl (lb_ I0.size) (wn rfl) ((g_2.at_ 1).trans I0.s1) (fun x_3 g_3 => ?_)
  clear g_2
  refine g_3.move 22 (.int .u32 (at_ : Int)) _ (Or.inl rfl) rfl (lb_ I0.size) (wn rfl) ((g_3.at_ 11).trans h11) (fun x_4 g_4 => ?_)
  clear g_3
  have r_5 : (execOp x_4.eval oQG2).run Try.prog (wr) = .ok (.enter 23 #[.slice pa n cp, .int .u32 (at_ : Int)]) (wr) := by
    unfold oQG2
    have kf : ∀ f, x_4.eval (.func f) = .func (.func f) #[] #[] := fun _ => rfl
    have e21 : x_4.eval (.tmp 21) = .slice pa n cp := g_4.at_ 21
    have e22 : x_4.eval (.tmp 22) = .int .u32 (at_ : Int) := g_4.at_ 22
    clear g_4 hQ h11 h10
    generalize x_4.eval = ρ at *
    go_simp
  refine g_4.call 23 rfl (lb_ I0.size) (wn rfl) r_5 (kF wr (Fr.refl _ wr)) (fun e W1 hR => ?_)
  obtain ⟨rfl, s1⟩ := hR
  clear r_5
  refine ⟨_, rfl, fun x_5 g_5 => ?_⟩
  clear g_4
  refine g_5.move 20 (.tuple #[.agg #[.int .u8 3, .int .u32 (no : Int), .int .u64 (vr : Int), .string bd], .bool true]) _ (Or.inl rfl) rfl (lb_ I0.size) (wn rfl) (g_5.at_ 23) (fun x_6 g_6 => ?_)
  clear g_5
  have r_7 : (execOp x_6.eval oQG3).run Try.prog (W1) = .ok (.value (.agg #[.int .u8 3, .int .u32 (no : Int), .int .u64 (vr : Int), .string bd])) (W1) := by
    unfold oQG3
    have e20 : x_6.eval (.tmp 20) = .tuple #[.agg #[.int .u8 3, .int .u32 (no : Int), .int .u64 (vr : Int), .string bd], .bool true] := g_6.at_ 20
    clear g_6 hQ h11 h10
    generalize x_6.eval = ρ at *
    go_simp
  refine g_6.step 24 _ rfl (lb_ I0.size) (wn rfl) r_7 (fun x_7 g_7 => ?_)
  clear r_7 g_6
  have r_8 : (execOp x_7.eval oQG4).run Try.prog (W1) = .ok (.value (.bool true)) (W1) := by
    unfold oQG4
    have e20 : x_7.eval (.tmp 20) = .tuple #[.agg #[.int .u8 3, .int .u32 (no : Int), .int .u64 (vr : Int), .string bd], .bool true] := g_7.at_ 20
    clear g_7 hQ h11 h10
    generalize x_7.eval = ρ at *
    go_simp
  refine g_7.step 25 _ rfl (lb_ I0.size) (wn rfl) r_8 (fun x_8 g_8 => ?_)
  clear r_8 g_7
  have r_9 : (execOp x_8.eval oQG5).run Try.prog (W1) = .ok (.value (.pointer (some ⟨W1.heap.size, 0, none⟩))) (W1.alloc (.cells #[.int .u8 0, .int .u32 0, .int .u64 0, .string ⟨#[]⟩] 76)) := by
    unfold oQG5
    clear g_8 hQ h11 h10
    generalize x_8.eval = ρ at *
    go_simp
  refine g_8.stepW 12 (.pointer (some ⟨W1.heap.size, 0, none⟩)) rfl (lb_ I0.size) (wn rfl) r_9 (fun x_9 g_9 => ?_)
  clear r_9 g_8
  have r_10 : (execOp x_9.eval oQG6).run Try.prog (W1.alloc (.cells #[.int .u8 0, .int .u32 0, .int .u64 0, .string ⟨#[]⟩] 76)) = .ok .skip (W1.alloc (.cells #[.int .u8 3, .int .u32 (no : Int), .int .u64 (vr : Int), .string bd] 76)) := by
    unfold oQG6
    have e12 : x_9.eval (.tmp 12) = .pointer (some ⟨W1.heap.size, 0, none⟩) := g_9.at_ 12
    have e24 : x_9.eval (.tmp 24) = .agg #[.int .u8 3, .int .u32 (no : Int), .int .u64 (vr : Int), .string bd] := g_9.at_ 24
    clear g_9 hQ h11 h10
    generalize x_9.eval = ρ at *
    go_simp
  refine g_9.store rfl (wn rfl) r_10 (fun x_10 g_10 => ?_)
  clear r_10 g_9
  refine g_10.move 13 (.bool true) _ (Or.inr rfl) rfl (lb_ I0.size) (wn rfl) (g_10.at_ 25) (fun x_11 g_11 => ?_)
  clear g_10
  refine wpList_nil ?_
  obtain ⟨W2, hW2⟩ : ∃ W2, W2 = W1.alloc (.cells #[.int .u8 3, .int .u32 (no : Int), .int .u64 (vr : Int), .string bd] 76) := ⟨_, rfl⟩
  rw [← hW2]
  have s2 : Same wr W2 := by rw [hW2]; exact s1.alloc _
  have r2 : W2.heap[W1.heap.size]? = some (.cells #[.int .u8 3, .int .u32 (no : Int), .int .u64 (vr : Int), .string bd] 76 (0, 0)) := by rw [hW2]; exact heap_alloc_new W1 _
  clear hW2
  change Code.wp _ _ _ _ _
  refine wp_seq (wp_seq ?_)
  refine wp_region_list ?_
  unfold rDD5
  refine g_11.move 26 (.bool true) _ (Or.inl rfl) rfl (lb_ I0.size) (wn rfl) (g_11.at_ 13) (fun x_12 g_12 => ?_)
  clear g_11
  have r_13 : (execOp x_12.eval oQG7).run Try.prog (W2) = .ok (.value (.bool false)) (W2) := by
    unfold oQG7
    have e26 : x_12.eval (.tmp 26) = .bool true := g_12.at_ 26
    clear g_12 hQ h11 h10
    generalize x_12.eval = ρ at *
    go_simp
  refine g_12.step 27 _ rfl (lb_ I0.size) (wn rfl) r_13 (fun x_13 g_13 => ?_)
  clear r_13 g_12
  refine wpList_nil ?_
  change Code.wp _ _ _ _ _
  refine wp_cond_false (show x_13.eval (.tmp 27) = .bool false from (g_13.at_ 27)) (wp_skip ?_)
  change Code.wp _ _ _ _ _
  refine wp_seq ?_
  have d0x := s2.keep d0
  have d1x := s2.keep d1
  have t3 : W2.cell? ⟨W1.heap.size, 3, none⟩ = some (.string bd) := (cell_of_row _ _ _ _ _ _ r2).trans rfl
  refine wp_region_list ?_
  unfold rDD7
  have r_14 : (execOp x_13.eval oQG8).run Try.prog (W2) = .ok (.value (.agg #[.int .i64 p, .int .i64 q])) (W2) := by
    unfold oQG8
    have e4 := (show x_13.eval (.tmp 4) = .pointer (some ⟨fb, 0, none⟩) from ((g_13.at_ 4).trans I0.s4))
    clear g_13 hQ h11 h10
    generalize x_13.eval = ρ at *
    go_simp
  refine g_13.step 29 _ rfl (lb_ I0.size) (wn rfl) r_14 (fun x_14 g_14 => ?_)
  clear r_14 g_13
  have r_15 : (execOp x_14.eval oQG9).run Try.prog (W2) = .ok (.value (.pointer (some ⟨W1.heap.size, 3, none⟩))) (W2) := by
    unfold oQG9
    have e12 : x_14.eval (.tmp 12) = .pointer (some ⟨W1.heap.size, 0, none⟩) := g_14.at_ 12
    clear g_14 hQ h11 h10
    generalize x_14.eval = ρ at *
    go_simp
  refine g_14.step 30 _ rfl (lb_ I0.size) (wn rfl) r_15 (fun x_15 g_15 => ?_)
  clear r_15 g_14
  have r_16 : (execOp x_15.eval oQG10).run Try.prog (W2) = .ok (.value (.string bd)) (W2) := by
    unfold oQG10
    have e30 : x_15.eval (.tmp 30) = .pointer (some ⟨W1.heap.size, 3, none⟩) := g_15.at_ 30
    clear g_15 hQ h11 h10
    generalize x_15.eval = ρ at *
    go_simp
  refine g_15.step 31 _ rfl (lb_ I0.size) (wn rfl) r_16 (fun x_16 g_16 => ?_)
  clear r_16 g_15
  have r_17 : (execOp x_16.eval oQG11).run Try.prog (W2) = .ok (.enter 24 #[.agg #[.int .i64 p, .int .i64 q], .string bd]) (W2) := by
    unfold oQG11
    have kf : ∀ f, x_16.eval (.func f) = .func (.func f) #[] #[] := fun _ => rfl
    have e29 : x_16.eval (.tmp 29) = .agg #[.int .i64 p, .int .i64 q] := g_16.at_ 29
    have e31 : x_16.eval (.tmp 31) = .string bd := g_16.at_ 31
    clear g_16 hQ h11 h10
    generalize x_16.eval = ρ at *
    go_simp
  refine g_16.call 32 rfl (lb_ I0.size) (wn rfl) r_17 (kB W2 s2) (fun e W4 hR => ?_)
  obtain ⟨⟨xa, xc, rfl, o4⟩, s4⟩ := hR
  clear r_17
  refine ⟨_, rfl, fun x_17 g_17 => ?_⟩
  clear g_16
  refine g_17.move 28 (.tuple #[.int .u32 (nx : Int), .slice xa ns.length xc, .int .i64 0]) _ (Or.inl rfl) rfl (lb_ I0.size) (wn rfl) (g_17.at_ 32) (fun x_18 g_18 => ?_)
  clear g_17
  have r_19 : (execOp x_18.eval oQG12).run Try.prog (W4) = .ok (.value (.int .u32 (nx : Int))) (W4) := by
    unfold oQG12
    have e28 : x_18.eval (.tmp 28) = .tuple #[.int .u32 (nx : Int), .slice xa ns.length xc, .int .i64 0] := g_18.at_ 28
    clear g_18 hQ h11 h10
    generalize x_18.eval = ρ at *
    go_simp
  refine g_18.step 33 _ rfl (lb_ I0.size) (wn rfl) r_19 (fun x_19 g_19 => ?_)
  clear r_19 g_18
  have r_20 : (execOp x_19.eval oQG13).run Try.prog (W4) = .ok (.value (.slice xa ns.length xc)) (W4) := by
    unfold oQG13
    have e28 : x_19.eval (.tmp 28) = .tuple #[.int .u32 (nx : Int), .slice xa ns.length xc, .int .i64 0] := g_19.at_ 28
    clear g_19 hQ h11 h10
    generalize x_19.eval = ρ at *
    go_simp
  refine g_19.step 34 _ rfl (lb_ I0.size) (wn rfl) r_20 (fun x_20 g_20 => ?_)
  clear r_20 g_19
  have r_21 : (execOp x_20.eval oQG14).run Try.prog (W4) = .ok (.value (.int .i64 0)) (W4) := by
    unfold oQG14
    have e28 : x_20.eval (.tmp 28) = .tuple #[.int .u32 (nx : Int), .slice xa ns.length xc, .int .i64 0] := g_20.at_ 28
    clear g_20 hQ h11 h10
    generalize x_20.eval = ρ at *
    go_simp
  refine g_20.step 35 _ rfl (lb_ I0.size) (wn rfl) r_21 (fun x_21 g_21 => ?_)
  clear r_21 g_20
  refine g_21.move 14 (.int .u32 (nx : Int)) _ (Or.inr rfl) rfl (lb_ I0.size) (wn rfl) (g_21.at_ 33) (fun x_22 g_22 => ?_)
  clear g_21
  refine g_22.move 15 (.slice xa ns.length xc) _ (Or.inr rfl) rfl (lb_ I0.size) (wn rfl) (g_22.at_ 34) (fun x_23 g_23 => ?_)
  clear g_22
  refine g_23.move 16 (.int .i64 0) _ (Or.inr rfl) rfl (lb_ I0.size) (wn rfl) (g_23.at_ 35) (fun x_24 g_24 => ?_)
  clear g_23
  refine wpList_nil ?_
  have t0 : W4.cell? ⟨W1.heap.size, 0, none⟩ = some (.int .u8 3) := s4.keep ((cell_of_row _ _ _ _ _ _ r2).trans rfl)
  have s24 : Same wr W4 := s2.trans s4
  change Code.wp _ _ _ _ _
  refine wp_seq (wp_seq ?_)
  refine wp_region_list ?_
  unfold rDD8
  have r_25 : (execOp x_24.eval oQG15).run Try.prog (W4) = .ok (.value (.pointer (some ⟨W1.heap.size, 0, none⟩))) (W4) := by
    unfold oQG15
    have e12 : x_24.eval (.tmp 12) = .pointer (some ⟨W1.heap.size, 0, none⟩) := g_24.at_ 12
    clear g_24 hQ h11 h10
    generalize x_24.eval = ρ at *
    go_simp
  refine g_24.step 36 _ rfl (lb_ I0.size) (wn rfl) r_25 (fun x_25 g_25 => ?_)
  clear r_25 g_24
  have r_26 : (execOp x_25.eval oQG16).run Try.prog (W4) = .ok (.value (.int .u8 3)) (W4) := by
    unfold oQG16
    have e36 : x_25.eval (.tmp 36) = .pointer (some ⟨W1.heap.size, 0, none⟩) := g_25.at_ 36
    clear g_25 hQ h11 h10
    generalize x_25.eval = ρ at *
    go_simp
  refine g_25.step 37 _ rfl (lb_ I0.size) (wn rfl) r_26 (fun x_26 g_26 => ?_)
  clear r_26 g_25
  have r_27 : (execOp x_26.eval oQG17).run Try.prog (W4) = .ok (.value (.int .i64 3)) (W4) := by
    unfold oQG17
    have e37 : x_26.eval (.tmp 37) = .int .u8 3 := g_26.at_ 37
    clear g_26 hQ h11 h10
    generalize x_26.eval = ρ at *
    go_simp
  refine g_26.step 38 _ rfl (lb_ I0.size) (wn rfl) r_27 (fun x_27 g_27 => ?_)
  clear r_27 g_26
  have r_28 : (execOp x_27.eval oQG18).run Try.prog (W4) = .ok (.value (.bool false)) (W4) := by
    unfold oQG18
    have kc : ∀ v, x_27.eval (.const v) = v := fun _ => rfl
    have e38 : x_27.eval (.tmp 38) = .int .i64 3 := g_27.at_ 38
    clear g_27 hQ h11 h10
    generalize x_27.eval = ρ at *
    go_simp
  refine g_27.step 39 _ rfl (lb_ I0.size) (wn rfl) r_28 (fun x_28 g_28 => ?_)
  clear r_28 g_27
  refine g_28.move 40 (.bool false) _ (Or.inl rfl) rfl (lb_ I0.size) (wn rfl) (g_28.at_ 39) (fun x_29 g_29 => ?_)
  clear g_28
  refine g_29.move 41 (.int .i64 0) _ (Or.inl rfl) rfl (lb_ I0.size) ((wanted_at (t := 40) (c := false) (b := false) rfl rfl rfl (lb_ (g_29.size.trans I0.size)) (g_29.at_ 40)).trans (by rfl)) (g_29.at_ 16) (fun x_30 g_30 => ?_)
  clear g_29
  have r_31 : (execOp x_30.eval oQG19).run Try.prog (W4) = .ok (.value (.bool false)) (W4) := by
    unfold oQG19
    have kc : ∀ v, x_30.eval (.const v) = v := fun _ => rfl
    have e41 : x_30.eval (.tmp 41) = .int .i64 0 := g_30.at_ 41
    clear g_30 hQ h11 h10
    generalize x_30.eval = ρ at *
    go_simp
  refine g_30.step 42 _ rfl (lb_ I0.size) ((wanted_at (t := 40) (c := false) (b := false) rfl rfl rfl (lb_ (g_30.size.trans I0.size)) (g_30.at_ 40)).trans (by rfl)) r_31 (fun x_31 g_31 => ?_)
  clear r_31 g_30
  have r_32 : (execOp x_31.eval oQG20).run Try.prog (W4) = .ok (.value (.bool false)) (W4) := by
    unfold oQG20
    have kc : ∀ v, x_31.eval (.const v) = v := fun _ => rfl
    have e40 : x_31.eval (.tmp 40) = .bool false := g_31.at_ 40
    have e42 : x_31.eval (.tmp 42) = .bool false := g_31.at_ 42
    clear g_31 hQ h11 h10
    generalize x_31.eval = ρ at *
    go_simp
  refine g_31.step 43 _ rfl (lb_ I0.size) (wn rfl) r_32 (fun x_32 g_32 => ?_)
  clear r_32 g_31
  refine wpList_nil ?_
  change Code.wp _ _ _ _ _
  refine wp_cond_false (show x_32.eval (.tmp 43) = .bool false from (g_32.at_ 43)) (wp_skip ?_)
  change Code.wp _ _ _ _ _
  refine wp_seq ?_
  have rN := own_frameB hw.row s24 (fun _ _ e => e)
  rw [hl] at rN
  refine wp_region_list ?_
  unfold rDD10
  refine g_32.move 44 (.slice ao l cc) _ (Or.inl rfl) rfl (lb_ I0.size) (wn rfl) ((g_32.at_ 10).trans h10) (fun x_33 g_33 => ?_)
  clear g_32
  refine g_33.move 45 (.int .u32 (at_ : Int)) _ (Or.inl rfl) rfl (lb_ I0.size) (wn rfl) ((g_33.at_ 11).trans h11) (fun x_34 g_34 => ?_)
  clear g_33
  refine g_34.move 46 (.slice xa ns.length xc) _ (Or.inl rfl) rfl (lb_ I0.size) (wn rfl) (g_34.at_ 15) (fun x_35 g_35 => ?_)
  clear g_34
  have r_36 : (execOp x_35.eval oQG21).run Try.prog (W4) = .ok (.value (.agg #[.int .u32 (at_ : Int), .slice xa ns.length xc])) (W4) := by
    unfold oQG21
    have e45 : x_35.eval (.tmp 45) = .int .u32 (at_ : Int) := g_35.at_ 45
    have e46 : x_35.eval (.tmp 46) = .slice xa ns.length xc := g_35.at_ 46
    clear g_35 hQ h11 h10
    generalize x_35.eval = ρ at *
    go_simp
  refine g_35.step 47 _ rfl (lb_ I0.size) (wn rfl) r_36 (fun x_36 g_36 => ?_)
  clear r_36 g_35
  have r_37 : (execOp x_36.eval oQG22).run Try.prog (W4) = .ok (.value (.slice (some ⟨W4.heap.size, 0, none⟩) 1 1)) (W4.alloc (.cells #[.int .u32 (at_ : Int), .slice xa ns.length xc] 53)) := by
    unfold oQG22
    have e47 : x_36.eval (.tmp 47) = .agg #[.int .u32 (at_ : Int), .slice xa ns.length xc] := g_36.at_ 47
    clear g_36 hQ h11 h10
    generalize x_36.eval = ρ at *
    go_simp
  refine g_36.stepW 48 (.slice (some ⟨W4.heap.size, 0, none⟩) 1 1) rfl (lb_ I0.size) (wn rfl) r_37 (fun x_37 g_37 => ?_)
  clear r_37
  obtain ⟨W5, hW5⟩ : ∃ W5, W5 = W4.alloc (.cells #[.int .u32 (at_ : Int), .slice xa ns.length xc] 53) := ⟨_, rfl⟩
  rw [← hW5]
  have s5 : Same W4 W5 := by rw [hW5]; exact (Fr.refl _ W4).alloc _
  have hh5 : W5.heap[W4.heap.size]? = some (.cells [.int .u32 (at_ : Int), .slice xa ns.length xc].toArray 53 (0, 0)) := by rw [hW5]; exact heap_alloc_new W4 _
  obtain ⟨a6, c6, W6, hr6, o6, g6⟩ := run_mB W5 30 (own_frameB rN s5 (fun _ _ e => e)) 1 (row_news hh5) rfl rfl (by omega) (Nat.le_trans hw.same.size (Nat.le_trans s24.size s5.size))
  rw [← hl] at g6 o6
  obtain ⟨b, hbp, hbn, s6, o7, nw, hlt⟩ := hw.app (p := p) (q := q) hwV (s24.trans s5) (own_frameB (own_base o4 s2.size) s5 (fun _ _ e => e)) hat hns g6 o6
  have hl2 : (N ++ [b]).length = l + 1 := by rw [List.length_append, hl]; rfl
  obtain ⟨gv, bv⟩ := new_bv o7 nw hlt
  have hdr := dR_app (p := p) (q := q) (pages := pages) N (fun _ => false) b
  rw [hw.dr, ← hw.fs, hbp, hbn, hok, Bool.true_and] at hdr
  have hwt2 : wt (N ++ [b]) ≤ 2000000 := by
    have e1 := hw.cnt
    have e2 : wt (N ++ [b]) = wt N + (b.ns.length + 1) := by rw [wt_wtK, wt_wtK, List.map_append]; exact wtK_app _ _
    have e3 := wt_wtK N
    rw [hw.key] at e3
    rw [e2, hbn]
    omega
  have kR := right_calls (p := p) (q := q) (pages := pages) (cp := c6) W6 bv rfl hwt2 hpg
  rw [hdr, hl2] at kR
  have d0y := s6.keep dv0
  have d1y := s6.keep dv1
  clear g_36
  have r_38 : (execOp x_37.eval oQG23).run Try.prog (W5) = .ok (.value (.slice a6 (l + 1) c6)) (W6) := by
    unfold oQG23
    refine exec_append rfl ?_
    rw [(show x_37.eval (.tmp 44) = .slice ao l cc from (g_37.at_ 44)), (show x_37.eval (.tmp 48) = .slice (some ⟨W4.heap.size, 0, none⟩) 1 1 from (g_37.at_ 48))]
    exact hr6
  refine g_37.stepW 49 (.slice a6 (l + 1) c6) rfl (lb_ I0.size) (wn rfl) r_38 (fun x_38 g_38 => ?_)
  clear r_38 g_37
  refine g_38.move 10 (.slice a6 (l + 1) c6) _ (Or.inr rfl) rfl (lb_ I0.size) (wn rfl) (g_38.at_ 49) (fun x_39 g_39 => ?_)
  clear g_38
  refine wpList_nil ?_
  change Code.wp _ _ _ _ _
  refine wp_seq (wp_seq ?_)
  refine wp_region_list ?_
  unfold rDD11
  have r_40 : (execOp x_39.eval oQG24).run Try.prog (W6) = .ok (.value (.agg #[.int .i64 p, .int .i64 q])) (W6) := by
    unfold oQG24
    have e4 := (show x_39.eval (.tmp 4) = .pointer (some ⟨fb, 0, none⟩) from ((g_39.at_ 4).trans I0.s4))
    clear g_39 hQ h11 h10
    generalize x_39.eval = ρ at *
    go_simp
  refine g_39.step 50 _ rfl (lb_ I0.size) (wn rfl) r_40 (fun x_40 g_40 => ?_)
  clear r_40 g_39
  refine g_40.move 51 (.slice a6 (l + 1) c6) _ (Or.inl rfl) rfl (lb_ I0.size) (wn rfl) (g_40.at_ 10) (fun x_41 g_41 => ?_)
  clear g_40
  refine g_41.move 52 (.int .u32 (pages : Int)) _ (Or.inl rfl) rfl (lb_ I0.size) (wn rfl) ((g_41.at_ 3).trans I0.s3) (fun x_42 g_42 => ?_)
  clear g_41
  have r_43 : (execOp x_42.eval oQG25).run Try.prog (W6) = .ok (.enter 22 #[.agg #[.int .i64 p, .int .i64 q], .slice a6 (l + 1) c6, .int .u32 (pages : Int)]) (W6) := by
    unfold oQG25
    have kf : ∀ f, x_42.eval (.func f) = .func (.func f) #[] #[] := fun _ => rfl
    have e50 : x_42.eval (.tmp 50) = .agg #[.int .i64 p, .int .i64 q] := g_42.at_ 50
    have e51 : x_42.eval (.tmp 51) = .slice a6 (l + 1) c6 := g_42.at_ 51
    have e52 : x_42.eval (.tmp 52) = .int .u32 (pages : Int) := g_42.at_ 52
    clear g_42 hQ h11 h10
    generalize x_42.eval = ρ at *
    go_simp
  refine g_42.call 53 rfl (lb_ I0.size) (wn rfl) r_43 (kR) (fun e W7 hR => ?_)
  obtain ⟨rfl, s7⟩ := hR
  clear r_43
  refine ⟨_, rfl, fun x_43 g_43 => ?_⟩
  clear g_42
  have r_44 : (execOp x_43.eval oQG26).run Try.prog (W7) = .ok (.value (.bool false)) (W7) := by
    unfold oQG26
    have e53 : x_43.eval (.tmp 53) = .bool true := g_43.at_ 53
    clear g_43 hQ h11 h10
    generalize x_43.eval = ρ at *
    go_simp
  refine g_43.step 54 _ rfl (lb_ I0.size) (wn rfl) r_44 (fun x_44 g_44 => ?_)
  clear r_44 g_43
  refine wpList_nil ?_
  change Code.wp _ _ _ _ _
  refine wp_cond_false (show x_44.eval (.tmp 54) = .bool false from (g_44.at_ 54)) (wp_skip ?_)
  change Code.wp _ _ _ _ _
  refine wp_region_list ?_
  unfold rDD13
  refine g_44.move 55 (.int .u32 (nx : Int)) _ (Or.inl rfl) rfl (lb_ I0.size) (wn rfl) (g_44.at_ 14) (fun x_45 g_45 => ?_)
  clear g_44
  refine g_45.move 11 (.int .u32 (nx : Int)) _ (Or.inr rfl) rfl (lb_ I0.size) (wn rfl) (g_45.at_ 55) (fun x_46 g_46 => ?_)
  clear g_45
  refine wpList_nil ?_
  have hc := ok_cnt hok
  exact hQ x_46 W7 a6 c6 (N ++ [b]) (I0.keep g_46 rfl rfl rfl) (by rw [hl2]; exact (show x_46.eval (.tmp 10) = .slice a6 (l + 1) c6 from (g_46.at_ 10))) (show x_46.eval (.tmp 11) = .int .u32 (nx : Int) from (g_46.at_ 11)) ⟨s6.trans s7, own_frameB o7 s7 (fun _ _ e => e), fun x hx => (nw x hx).fr s7 (fun _ _ e => e) (fun _ e => e), hlt, by rw [List.map_append, hw.key, ← hbp, ← hbn]; rfl, hdr, by rw [sR_app, ← hw.fs, hbp, hbn], by rw [wtK_app]; have := hw.cnt; show wtK acc + (ns.length + 1) + _ ≤ _; omega⟩
set_option maxRecDepth 100000 in
theorem dd_x {v1 v3 : Value} {fb l cc : Nat} {ao : Option Addr} {Q : Exit → Act → World → Prop} (a0 : Act) (wr : World) (I0 : IDD v1 v3 fb a0) (h10 : a0.eval (.tmp 10) = .slice ao l cc) (h11 : a0.eval (.tmp 11) = .int .u32 0)
    (hQ : ∀ a, IDD v1 v3 fb a → a.eval (.tmp 10) = .slice ao l cc → Q (.exit 0) a wr) : cDD1.wp Try.prog Q a0 wr := by
  have g_0 := Fe.refl a0
  unfold cDD1
  refine wp_seq (wp_seq ?_)
  refine wp_region_list ?_
  unfold rDD3
  refine g_0.move 18 (.int .u32 0) _ (Or.inl rfl) rfl (lb_ I0.size) (wn rfl) ((g_0.at_ 11).trans h11) (fun x_1 g_1 => ?_)
  clear g_0
  have r_2 : (execOp x_1.eval oQG1).run Try.prog (wr) = .ok (.value (.bool false)) (wr) := by
    unfold oQG1
    have kc : ∀ v, x_1.eval (.const v) = v := fun _ => rfl
    have e18 : x_1.eval (.tmp 18) = .int .u32 0 := g_1.at_ 18
    clear g_1 hQ h10 h11
    generalize x_1.eval = ρ at *
    go_simp
  refine g_1.step 19 _ rfl (lb_ I0.size) (wn rfl) r_2 (fun x_2 g_2 => ?_)
  clear r_2 g_1
  refine wpList_nil ?_
  change Code.wp _ _ _ _ _
  refine wp_cond_false (show x_2.eval (.tmp 19) = .bool false from (g_2.at_ 19)) (wp_exit ?_)
  exact hQ x_2 (I0.keep g_2 rfl rfl rfl) (show x_2.eval (.tmp 10) = .slice ao l cc from ((g_2.at_ 10).trans h10))
def dErr : RRes → Int
  | .ok _ => 0
  | .none => -1
  | .bad => 8
theorem from_d {p q : Int} {bd : ByteArray} (hs : bd.size ≤ 281474976710656) : ∀ Z, Calls Try.prog 24 #[.agg #[.int .i64 p, .int .i64 q], .string bd] Z fun e w' => (∃ ao cc, e = .returned (.tuple #[.int .u32 (qNx p q bd : Int), .slice ao (qNs p q bd).length cc, .int .i64 (qE p q bd)]) ∧ w'.ownsRow Z.heap.size 28 1 (.slice ao (qNs p q bd).length cc) (qNs p q bd).length (ncells (qNs p q bd))) ∧ Same Z w' := fun Z =>
  (rfrom_calls bd hs Z).mono fun _ _ ⟨h1, h2⟩ => ⟨fq_doc h1, h2⟩
theorem ddL {p q : Int} {fb first pages pb po n cp : Nat} {pa : Option Addr} {P : List Pgd} {R : RRes} {Q : Exit → Act → World → Prop} (a0 : Act) (w V : World) (I0 : IDD (.slice pa n cp) (.int .u32 (pages : Int)) fb a0) (h10 : a0.eval (.tmp 10) = .slice none 0 0) (h11 : a0.eval (.tmp 11) = .int .u32 (first : Int)) (hfi : first < 4294967296)
    (hr : PdRow w pa pb po P) (hn : n = P.length) (hnb : n ≤ 4000000) (hsz : ∀ x ∈ P, x.body.size ≤ 281474976710656) (hkd : ∀ x ∈ P, x.kind < 256) (sV : Same w V) (hpg : pages ≤ 65536) (hR : Rdr p q pages P (fun _ => false) first [] R)
    (d0 : V.cell? ⟨fb, 0, none⟩ = some (.int .i64 p)) (d1 : V.cell? ⟨fb, 1, none⟩ = some (.int .i64 q))
    (hE : ∀ a W ao cc N, R = .ok (N.map Bt.key) → IDD (.slice pa n cp) (.int .u32 (pages : Int)) fb a → a.eval (.tmp 10) = .slice ao N.length cc → (∃ f, DRw w V W p q pages f (N.map Bt.key) ao cc N) → Q (.exit 0) a W)
    (hN : ∀ a W, rKey R = [] → a.defers = [] → a.eval (.tmp 8) = .slice none 0 0 → a.eval (.tmp 9) = .int .i64 (dErr R) → Same w W → Q .ret a W) : (Code.loop cDD1).wp Try.prog Q a0 V := by
  refine wp_loop_ghost (fun m a W => ∃ f at_ acc ao cc N, m = cntR pages f ∧ IDD (.slice pa n cp) (.int .u32 (pages : Int)) fb a ∧ a.eval (.tmp 10) = .slice ao N.length cc ∧ a.eval (.tmp 11) = .int .u32 ((at_ : Nat) : Int) ∧ at_ < 4294967296 ∧ DRw w V W p q pages f acc ao cc N ∧ Rdr p q pages P f at_ acc R) _ ⟨fun _ => false, first, [], none, 0, [], rfl, I0, h10, h11, hfi, ⟨Fr.refl _ V, own_nil, (fun x hx => (by cases hx)), (fun x hx => (by cases hx)), rfl, rfl, rfl, by rw [cnt_none]; simp [wtK]⟩, hR⟩ ?_
  rintro m a W ⟨f, at_, acc, ao, cc, N, rfl, I1, g10, g11, hat, hw, hr2⟩
  have sW := sV.trans hw.same
  have hwt : wtK acc ≤ 65536 := by have := hw.cnt; omega
  have hNl : N.length ≤ 65536 := by
    have h1 := wt_len N
    have h2 := wt_wtK N
    rw [hw.key] at h2
    omega
  have kFs : ∀ {x : Pgd}, findP P at_ = some x → ∀ Z, Same W Z → Calls Try.prog 23 #[.slice pa n cp, .int .u32 (at_ : Int)] Z fun e w' => e = .returned (.tuple #[.agg #[.int .u8 (x.kind : Int), .int .u32 (x.no : Int), .int .u64 (x.ver : Int), .string x.body], .bool true]) ∧ Same Z w' := fun hf Z s => by
    have := find_calls (no := at_) (cp := cp) Z ((hr.same sW).same s) hn hnb
    unfold findV at this
    rw [hf] at this
    exact this
  cases hr2 with
  | done =>
    exact dd_x a W I1 g10 g11 (fun a' i2 k10 => hE a' W ao cc N (by rw [hw.key]) i2 k10 ⟨f, by rw [hw.key]; exact hw⟩)
  | miss h0 h1 =>
    refine dd_a a W I1 g11 h0 (fun Z s => ?_) (fun a' W' hd h8 h9 s => hN a' W' rfl hd h8 h9 (sW.trans s))
    have := find_calls (no := at_) (cp := cp) Z ((hr.same sW).same s) hn hnb
    unfold findV at this
    rw [h1] at this
    exact this
  | @bad1 _ _ _ x h0 h1 h2 =>
    have hm := (find_mem h1).1
    by_cases hk : x.kind = 3
    · have hd : docOk p q x.body = false := h2.elim (fun e => absurd hk e) id
      have he : ¬ qE p q x.body = 0 := by unfold qE; rw [hd]; simp only [Bool.false_eq_true, if_false]; split <;> decide
      exact dd_c (ns := qNs p q x.body) (nx := qNx p q x.body) a W I1 g11 h0 (hw.same.keep d0) (hw.same.keep d1) he (fun Z s => by have := kFs h1 Z s; rw [hk] at this; exact this) (fun Z _ => from_d (hsz x hm) Z) (fun a' W' hd h8 h9 s => hN a' W' rfl hd h8 h9 (sW.trans s))
    · exact dd_b (ns := qNs p q x.body) (nx := qNx p q x.body) a W I1 g11 h0 (hw.same.keep d0) (hw.same.keep d1) hk (hkd x hm) (fun Z s => kFs h1 Z s) (fun Z _ => from_d (hsz x hm) Z) (fun a' W' hd h8 h9 s => hN a' W' rfl hd h8 h9 (sW.trans s))
  | @bad2 _ _ _ x h0 h1 h2 h3 h4 =>
    have hm := (find_mem h1).1
    have he : qE p q x.body = 0 := by unfold qE; rw [h3]; rfl
    exact dd_d (nx := qNx p q x.body) a w V W I1 g10 g11 h0 (hw.same.keep d0) (hw.same.keep d1) d0 d1 hw sV.size rfl h4 (qNs_lt p q x.body) hat (by have := qNs_len p q x.body; omega) hpg (by omega) (fun Z s => by have := kFs h1 Z s; rw [h2] at this; exact this) (fun Z _ => by have := from_d (p := p) (q := q) (hsz x hm) Z; rw [he] at this; exact this) (fun a' W' hd h8 h9 s => hN a' W' rfl hd h8 h9 (sV.trans s))
  | @next _ _ _ x _ h0 h1 h2 h3 h4 h5 =>
    have hm := (find_mem h1).1
    have he : qE p q x.body = 0 := by unfold qE; rw [h3]; rfl
    refine dd_e (nx := qNx p q x.body) a w V W I1 g10 g11 h0 (hw.same.keep d0) (hw.same.keep d1) d0 d1 hw sV.size rfl h4 (qNs_lt p q x.body) hat (by have := qNs_len p q x.body; omega) hpg (by omega) (fun Z s => by have := kFs h1 Z s; rw [h2] at this; exact this) (fun Z _ => by have := from_d (p := p) (q := q) (hsz x hm) Z; rw [he] at this; exact this) (fun a' W' a6 c6 N2 i2 k10 k11 hw2 => ?_)
    have := ok_cnt h4
    exact ⟨_, by omega, _, _, _, a6, c6, N2, rfl, i2, k10, k11, qNx_lt _ _ _, hw2, h5⟩
set_option maxRecDepth 100000 in
set_option maxHeartbeats 1000000 in
theorem dread_calls {p q : Int} {first pages pb po n cp : Nat} {pa : Option Addr} {P : List Pgd} {R : RRes} (w : World) (hr : PdRow w pa pb po P) (hn : n = P.length) (hnb : n ≤ 4000000) (hs : ∀ x ∈ P, x.body.size ≤ 281474976710656) (hkd : ∀ x ∈ P, x.kind < 256) (hp2 : pages ≤ 65536) (hfi : first < 4294967296) (hR : Rdr p q pages P (fun _ => false) first [] R) :
    Calls Try.prog 7 #[.agg #[.int .i64 p, .int .i64 q], .slice pa n cp, .int .u32 (first : Int), .int .u32 (pages : Int)] w fun e w' => ∃ ao cc N, e = .returned (.tuple #[.slice ao N.length cc, .int .i64 (dErr R)]) ∧ w'.ownsRow w.heap.size 53 2 (.slice ao N.length cc) N.length (btCs N) ∧ (∀ x ∈ N, NewX w w' x) ∧ N.map Bt.key = rKey R ∧ Same w w' := by
  refine calls_abs (c := cDD) Try.func7 (by kernel_rfl) 57 rfl (by simp) (fun a0 hsz hd ha => ?_)
  have g_0 := Fe.refl a0
  unfold cDD
  refine wp_seq ?_
  refine wp_region_list ?_
  unfold rDD0
  have r_1 : (execOp a0.eval oQG0).run Try.prog (w) = .ok (.value (.pointer (some ⟨w.heap.size, 0, none⟩))) (w.alloc (.cells #[.int .i64 p, .int .i64 q] 23)) := by
    unfold oQG0
    have e0 := (show a0.eval (.tmp 0) = .agg #[.int .i64 p, .int .i64 q] from ((g_0.at_ 0).trans (ha 0 _ rfl)))
    clear g_0 ha hn
    generalize a0.eval = ρ at *
    go_simp
  refine g_0.stepW 4 (.pointer (some ⟨w.heap.size, 0, none⟩)) rfl (lb_ hsz) (wn rfl) r_1 (fun x_1 g_1 => ?_)
  clear r_1 g_0
  refine g_1.move 8 (.slice none 0 0) _ (Or.inr rfl) rfl (lb_ hsz) (wn rfl) rfl (fun x_2 g_2 => ?_)
  clear g_1
  refine g_2.move 9 (.int .i64 0) _ (Or.inr rfl) rfl (lb_ hsz) (wn rfl) rfl (fun x_3 g_3 => ?_)
  clear g_2
  refine wpList_nil ?_
  obtain ⟨V, hV⟩ : ∃ V, V = w.alloc (.cells #[.int .i64 p, .int .i64 q] 23) := ⟨_, rfl⟩
  rw [← hV]
  have sV : Same w V := by rw [hV]; exact (Fr.refl _ w).alloc _
  have r0 : V.heap[w.heap.size]? = some (.cells #[.int .i64 p, .int .i64 q] 23 (0, 0)) := by rw [hV]; exact heap_alloc_new w _
  clear hV
  change Code.wp _ _ _ _ _
  refine wp_seq ?_
  refine wp_region_list ?_
  unfold rDD1
  refine g_3.move 10 (.slice none 0 0) _ (Or.inr rfl) rfl (lb_ hsz) (wn rfl) rfl (fun x_4 g_4 => ?_)
  clear g_3
  refine wpList_nil ?_
  change Code.wp _ _ _ _ _
  refine wp_seq (wp_seq ?_)
  refine wp_region_list ?_
  unfold rDD2
  refine g_4.move 17 (.int .u32 (first : Int)) _ (Or.inl rfl) rfl (lb_ hsz) (wn rfl) ((g_4.at_ 2).trans (ha 2 _ rfl)) (fun x_5 g_5 => ?_)
  clear g_4
  refine g_5.move 11 (.int .u32 (first : Int)) _ (Or.inr rfl) rfl (lb_ hsz) (wn rfl) (g_5.at_ 17) (fun x_6 g_6 => ?_)
  clear g_5
  refine wpList_nil ?_
  change Code.wp _ _ _ _ _
  refine wp_block ?_
  have I0 : IDD (.slice pa n cp) (.int .u32 (pages : Int)) w.heap.size x_6 := ⟨g_6.size.trans hsz, g_6.defers.trans hd, (show x_6.eval (.tmp 1) = .slice pa n cp from ((g_6.at_ 1).trans (ha 1 _ rfl))), (show x_6.eval (.tmp 3) = .int .u32 (pages : Int) from ((g_6.at_ 3).trans (ha 3 _ rfl))), (show x_6.eval (.tmp 4) = .pointer (some ⟨w.heap.size, 0, none⟩) from (g_6.at_ 4))⟩
  refine ddL (R := R) x_6 w V I0 (show x_6.eval (.tmp 10) = .slice none 0 0 from (g_6.at_ 10)) (show x_6.eval (.tmp 11) = .int .u32 (first : Int) from (g_6.at_ 11)) hfi hr hn hnb hs hkd sV hp2 hR ((cell_of_row _ _ _ _ _ _ r0).trans rfl) ((cell_of_row _ _ _ _ _ _ r0).trans rfl) (fun b W ao cc N hRe i2 k10 hw => ?_) (fun b W hk hdb h8 h9 s => ?_)
  · have fb_0 := Fe.refl b
    obtain ⟨f, hw⟩ := hw
    change Code.wp _ _ _ _ _
    refine wp_seq ?_
    refine wp_region_list ?_
    unfold rDD14
    refine fb_0.move 56 (.slice ao N.length cc) _ (Or.inl rfl) rfl (lb_ i2.size) (wn rfl) ((fb_0.at_ 10).trans k10) (fun b_1 fb_1 => ?_)
    clear fb_0
    refine fb_1.move 8 (.slice ao N.length cc) _ (Or.inr rfl) rfl (lb_ i2.size) (wn rfl) (fb_1.at_ 56) (fun b_2 fb_2 => ?_)
    clear fb_1
    refine fb_2.move 9 (.int .i64 0) _ (Or.inr rfl) rfl (lb_ i2.size) (wn rfl) rfl (fun b_3 fb_3 => ?_)
    clear fb_2
    refine wpList_nil ?_
    change Code.wp _ _ _ _ _
    refine wp_ret ?_
    refine ret_two (P := Try.prog) (fn := Try.f7) (R := fun e w' => ∃ ao cc N, e = .returned (.tuple #[.slice ao N.length cc, .int .i64 (dErr R)]) ∧ w'.ownsRow w.heap.size 53 2 (.slice ao N.length cc) N.length (btCs N) ∧ (∀ x ∈ N, NewX w w' x) ∧ N.map Bt.key = rKey R ∧ Same w w') rfl (fb_3.defers.trans i2.defers) (show b_3.eval (.tmp 8) = .slice ao N.length cc from (fb_3.at_ 8)) (show b_3.eval (.tmp 9) = .int .i64 0 from (fb_3.at_ 9)) ⟨ao, cc, N, ?_, own_base hw.row sV.size, hw.new_, ?_, sV.trans hw.same⟩
    · rw [hRe]; rfl
    · rw [hRe]; rfl
  · exact ret_two (P := Try.prog) (fn := Try.f7) (R := fun e w' => ∃ ao cc N, e = .returned (.tuple #[.slice ao N.length cc, .int .i64 (dErr R)]) ∧ w'.ownsRow w.heap.size 53 2 (.slice ao N.length cc) N.length (btCs N) ∧ (∀ x ∈ N, NewX w w' x) ∧ N.map Bt.key = rKey R ∧ Same w w') rfl hdb h8 h9 ⟨none, 0, [], rfl, own_nil, fun x hx => (by cases hx), by rw [hk]; rfl, s⟩
end Go.Proofs.Ytajbifblbmlffaa
