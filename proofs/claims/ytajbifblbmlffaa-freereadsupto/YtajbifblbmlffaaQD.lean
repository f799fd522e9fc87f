/- free: Read. -/
import Derived.Test.YtajbifblbmlffaaQC
import Derived.Test.YtajbifblbmlffaaZC
namespace Go.Proofs.Ytajbifblbmlffaa
open Go.RowKit Go.Maps

def oQD0 : Oper := { dst := some 28, op := .binOp .neq 28 (.tmp 27) (.const (.int .u32 0)) 28, type := 4, pos := "chain.go:98", after := #[{ on := 0, ground := .data }], guard := none }
def oQD1 : Oper := { dst := some 14, op := .alloc 53, type := 0, pos := "chain.go:99", after := #[], guard := none }
def oQD2 : Oper := { dst := some 30, op := .load 23 (.tmp 4), type := 23, pos := "chain.go:100", after := #[], guard := none }
def oQD3 : Oper := { dst := some 33, op := .call { callee := .value (.func 12), args := #[.tmp 30, .tmp 31, .tmp 32], argTypes := #[23, 45, 28] }, type := 54, pos := "chain.go:100", after := #[{ on := 0, ground := .data }, { on := 1, ground := .data }, { on := 2, ground := .data }], guard := none }
def oQD4 : Oper := { dst := some 34, op := .extract (.tmp 29) 0, type := 53, pos := "chain.go:100", after := #[{ on := 4, ground := .data }], guard := none }
def oQD5 : Oper := { dst := some 35, op := .extract (.tmp 29) 1, type := 28, pos := "chain.go:100", after := #[{ on := 4, ground := .data }, { on := 8, ground := .gcOnly .lateStores }], guard := none }
def oQD6 : Oper := { dst := some 36, op := .extract (.tmp 29) 2, type := 25, pos := "chain.go:100", after := #[{ on := 4, ground := .data }, { on := 9, ground := .gcOnly .lateStores }], guard := none }
def oQD7 : Oper := { dst := none, op := .store 53 (.tmp 14) (.tmp 34), type := 0, pos := "chain.go:100", after := #[{ on := 5, ground := .data }, { on := 3, ground := .chain }, { on := 0, ground := .phase }, { on := 1, ground := .phase }, { on := 2, ground := .phase }, { on := 3, ground := .phase }, { on := 4, ground := .phase }, { on := 5, ground := .phase }, { on := 6, ground := .textOnly .lateStores }, { on := 7, ground := .textOnly .lateStores }], guard := none }
def oQD8 : Oper := { dst := some 38, op := .binOp .neq 25 (.tmp 37) (.const (.int .i64 0)) 25, type := 4, pos := "chain.go:101", after := #[{ on := 0, ground := .data }], guard := none }
def oQD9 : Oper := { dst := some 40, op := .load 48 (.tmp 10), type := 48, pos := "chain.go:105", after := #[], guard := none }
def oQD10 : Oper := { dst := some 41, op := .load 53 (.tmp 14), type := 53, pos := "chain.go:105", after := #[], guard := none }
def oQD11 : Oper := { dst := some 42, op := .call { callee := .value (.func 13), args := #[.tmp 40, .tmp 41], argTypes := #[48, 53] }, type := 4, pos := "chain.go:105", after := #[{ on := 0, ground := .data }, { on := 1, ground := .data }], guard := none }
def oQD12 : Oper := { dst := some 43, op := .unOp .not 4 (.tmp 42), type := 4, pos := "chain.go:105", after := #[{ on := 2, ground := .data }], guard := none }
def oQD13 : Oper := { dst := some 45, op := .load 53 (.tmp 14), type := 53, pos := "chain.go:108", after := #[], guard := none }
def oQD14 : Oper := { dst := some 46, op := .buildSlice 30 1 #[(0, .tmp 45)], type := 30, pos := "chain.go:108", after := #[{ on := 1, ground := .data }], guard := none }
def oQD15 : Oper := { dst := some 47, op := .call { callee := .builtin .append, args := #[.tmp 44, .tmp 46], argTypes := #[30, 30] }, type := 30, pos := "chain.go:108", after := #[{ on := 0, ground := .data }, { on := 2, ground := .data }], guard := none }
def rRD0 : Array Oper := #[{ dst := some 4, op := .box 23 (.tmp 0), type := 0, pos := "chain.go:89", after := #[], guard := none },
  { dst := some 8, op := .assign (.const (.slice none 0 0)), type := 30, pos := "chain.go:89", after := #[], guard := none },
  { dst := some 9, op := .assign (.const (.int .i64 0)), type := 25, pos := "chain.go:89", after := #[{ on := 1, ground := .chain }], guard := none }]
def rRD1 : Array Oper := #[{ dst := some 15, op := .move (.tmp 1), type := 45, pos := "chain.go:90", after := #[], guard := none },
  { dst := some 16, op := .binOp .eql 45 (.tmp 15) (.const .nilIface) 45, type := 4, pos := "chain.go:90", after := #[{ on := 0, ground := .data }], guard := none }]
def rRD2 : Array Oper := #[{ dst := some 8, op := .assign (.const (.slice none 0 0)), type := 30, pos := "chain.go:91", after := #[], guard := none },
  { dst := some 9, op := .assign (.const (.int .i64 1)), type := 25, pos := "chain.go:91", after := #[{ on := 0, ground := .chain }, { on := 0, ground := .phase }], guard := none }]
def rRD3 : Array Oper := #[{ dst := some 18, op := .load 23 (.tmp 4), type := 23, pos := "chain.go:93", after := #[], guard := none },
  { dst := some 19, op := .move (.tmp 3), type := 28, pos := "chain.go:93", after := #[], guard := none },
  { dst := some 20, op := .call { callee := .value (.func 11), args := #[.tmp 18, .const (.slice none 0 0), .tmp 19], argTypes := #[23, 30, 28] }, type := 49, pos := "chain.go:93", after := #[{ on := 0, ground := .data }, { on := 1, ground := .data }], guard := none },
  { dst := some 17, op := .move (.tmp 20), type := 49, pos := "chain.go:93", after := #[{ on := 2, ground := .data }], guard := none },
  { dst := some 21, op := .extract (.tmp 17) 0, type := 48, pos := "chain.go:93", after := #[{ on := 3, ground := .data }], guard := none },
  { dst := some 22, op := .extract (.tmp 17) 1, type := 25, pos := "chain.go:93", after := #[{ on := 3, ground := .data }, { on := 7, ground := .gcOnly .lateStores }], guard := none },
  { dst := some 10, op := .alloc 48, type := 0, pos := "chain.go:93", after := #[], guard := none },
  { dst := none, op := .store 48 (.tmp 10) (.tmp 21), type := 0, pos := "chain.go:93", after := #[{ on := 6, ground := .data }, { on := 4, ground := .data }, { on := 2, ground := .chain }, { on := 0, ground := .phase }, { on := 1, ground := .phase }, { on := 2, ground := .phase }, { on := 3, ground := .phase }, { on := 4, ground := .phase }, { on := 5, ground := .textOnly .lateStores }, { on := 6, ground := .phase }], guard := none },
  { dst := some 11, op := .assign (.tmp 22), type := 25, pos := "chain.go:93", after := #[{ on := 5, ground := .data }, { on := 7, ground := .chain }, { on := 0, ground := .phase }, { on := 1, ground := .phase }, { on := 2, ground := .phase }, { on := 3, ground := .phase }, { on := 4, ground := .phase }, { on := 5, ground := .phase }, { on := 6, ground := .phase }, { on := 7, ground := .phase }], guard := none }]
def rRD4 : Array Oper := #[{ dst := some 23, op := .move (.tmp 11), type := 25, pos := "chain.go:94", after := #[], guard := none },
  { dst := some 24, op := .binOp .neq 25 (.tmp 23) (.const (.int .i64 0)) 25, type := 4, pos := "chain.go:94", after := #[{ on := 0, ground := .data }], guard := none }]
def rRD5 : Array Oper := #[{ dst := some 25, op := .move (.tmp 11), type := 25, pos := "chain.go:95", after := #[{ on := 1, ground := .gcOnly .lateStores }], guard := none },
  { dst := some 8, op := .assign (.const (.slice none 0 0)), type := 30, pos := "chain.go:95", after := #[{ on := 0, ground := .textOnly .lateStores }], guard := none },
  { dst := some 9, op := .assign (.tmp 25), type := 25, pos := "chain.go:95", after := #[{ on := 0, ground := .data }, { on := 1, ground := .chain }, { on := 0, ground := .phase }, { on := 1, ground := .phase }], guard := none }]
def rRD6 : Array Oper := #[{ dst := some 12, op := .assign (.const (.slice none 0 0)), type := 30, pos := "chain.go:97", after := #[], guard := none }]
def rRD7 : Array Oper := #[{ dst := some 26, op := .move (.tmp 2), type := 28, pos := "chain.go:98", after := #[], guard := none },
  { dst := some 13, op := .assign (.tmp 26), type := 28, pos := "chain.go:98", after := #[{ on := 0, ground := .data }, { on := 0, ground := .phase }], guard := none }]
def rRD8 : Array Oper := #[{ dst := some 27, op := .move (.tmp 13), type := 28, pos := "chain.go:98", after := #[], guard := none },
  oQD0]
def rRD9 : Array Oper := #[oQD1]
def rRD10 : Array Oper := #[oQD2,
  { dst := some 31, op := .move (.tmp 1), type := 45, pos := "chain.go:100", after := #[], guard := none },
  { dst := some 32, op := .move (.tmp 13), type := 28, pos := "chain.go:100", after := #[], guard := none },
  oQD3,
  { dst := some 29, op := .move (.tmp 33), type := 54, pos := "chain.go:100", after := #[{ on := 3, ground := .data }], guard := none },
  oQD4,
  oQD5,
  oQD6,
  oQD7,
  { dst := some 13, op := .assign (.tmp 35), type := 28, pos := "chain.go:100", after := #[{ on := 6, ground := .data }, { on := 8, ground := .chain }, { on := 0, ground := .phase }, { on := 1, ground := .phase }, { on := 2, ground := .phase }, { on := 3, ground := .phase }, { on := 4, ground := .phase }, { on := 5, ground := .phase }, { on := 6, ground := .phase }, { on := 7, ground := .textOnly .lateStores }, { on := 8, ground := .phase }], guard := none },
  { dst := some 11, op := .assign (.tmp 36), type := 25, pos := "chain.go:100", after := #[{ on := 7, ground := .data }, { on := 9, ground := .chain }, { on := 0, ground := .phase }, { on := 1, ground := .phase }, { on := 2, ground := .phase }, { on := 3, ground := .phase }, { on := 4, ground := .phase }, { on := 5, ground := .phase }, { on := 6, ground := .phase }, { on := 7, ground := .phase }, { on := 8, ground := .phase }, { on := 9, ground := .phase }], guard := none }]
def rRD11 : Array Oper := #[{ dst := some 37, op := .move (.tmp 11), type := 25, pos := "chain.go:101", after := #[], guard := none },
  oQD8]
def rRD12 : Array Oper := #[{ dst := some 39, op := .move (.tmp 11), type := 25, pos := "chain.go:102", after := #[{ on := 1, ground := .gcOnly .lateStores }], guard := none },
  { dst := some 8, op := .assign (.const (.slice none 0 0)), type := 30, pos := "chain.go:102", after := #[{ on := 0, ground := .textOnly .lateStores }], guard := none },
  { dst := some 9, op := .assign (.tmp 39), type := 25, pos := "chain.go:102", after := #[{ on := 0, ground := .data }, { on := 1, ground := .chain }, { on := 0, ground := .phase }, { on := 1, ground := .phase }], guard := none }]
def rRD13 : Array Oper := #[oQD9,
  oQD10,
  oQD11,
  oQD12]
def rRD14 : Array Oper := #[{ dst := some 8, op := .assign (.const (.slice none 0 0)), type := 30, pos := "chain.go:106", after := #[], guard := none },
  { dst := some 9, op := .assign (.const (.int .i64 8)), type := 25, pos := "chain.go:106", after := #[{ on := 0, ground := .chain }, { on := 0, ground := .phase }], guard := none }]
def rRD15 : Array Oper := #[{ dst := some 44, op := .move (.tmp 12), type := 30, pos := "chain.go:108", after := #[], guard := none },
  oQD13,
  oQD14,
  oQD15,
  { dst := some 12, op := .assign (.tmp 47), type := 30, pos := "chain.go:108", after := #[{ on := 3, ground := .data }, { on := 3, ground := .chain }, { on := 0, ground := .phase }, { on := 1, ground := .phase }, { on := 2, ground := .phase }, { on := 3, ground := .phase }], guard := none }]
def rRD16 : Array Oper := #[{ dst := some 48, op := .move (.tmp 12), type := 30, pos := "chain.go:110", after := #[], guard := none },
  { dst := some 8, op := .assign (.tmp 48), type := 30, pos := "chain.go:110", after := #[{ on := 0, ground := .data }, { on := 0, ground := .phase }], guard := none },
  { dst := some 9, op := .assign (.const (.int .i64 0)), type := 25, pos := "chain.go:110", after := #[{ on := 1, ground := .chain }, { on := 0, ground := .phase }, { on := 1, ground := .phase }], guard := none }]
def cRD1 : Code := (.seq (.seq (.region 8 rRD8 false) (.cond (.tmp 28) .skip (.exit 0))) (.block 1 (.seq (.region 9 rRD9 false) (.seq (.region 10 rRD10 false) (.seq (.seq (.region 11 rRD11 false) (.cond (.tmp 38) (.seq (.region 12 rRD12 false) .ret) .skip)) (.seq (.seq (.region 13 rRD13 false) (.cond (.tmp 43) (.seq (.region 14 rRD14 false) .ret) .skip)) (.region 15 rRD15 false)))))))
def cRD : Code := (.seq (.region 0 rRD0 false) (.seq (.seq (.region 1 rRD1 false) (.cond (.tmp 16) (.seq (.region 2 rRD2 false) .ret) .skip)) (.seq (.region 3 rRD3 false) (.seq (.seq (.region 4 rRD4 false) (.cond (.tmp 24) (.seq (.region 5 rRD5 false) .ret) .skip)) (.seq (.region 6 rRD6 false) (.seq (.seq (.region 7 rRD7 false) (.block 0 (.loop cRD1))) (.seq (.region 16 rRD16 false) .ret)))))))
theorem run_mB (w : World) (ty : TypeId) {B n g : Nat} {v x y : Value} {xs : List Value} (hown : w.ownsRow B 53 2 v n xs) (c : Nat) (hu1 : ∀ j u, [x, y][j]? = some u → w.cell? ((⟨g, 0, none⟩ : Addr).add j) = some u) (h1 : x.oneCell' = true) (h2 : y.oneCell' = true) (hb : n + 1 ≤ 1099511627776) (hB : B ≤ w.heap.size) :
    ∃ ao c2 w', (Builtin.append_ #[30, 30] ty #[v, .slice (some ⟨g, 0, none⟩) 1 c]).run Try.prog w = .ok (.slice ao (n + 1) c2) w' ∧ w'.ownsRow B 53 2 (.slice ao (n + 1) c2) (n + 1) (xs ++ [x, y]) ∧ w.grownBy w' v.ownBlock := by
  obtain ⟨i0, hi, hi0, hi1, hi2⟩ := info_parts Try.infBt
  obtain ⟨v', w', hr, h2, h3, _⟩ := run_append_own (P := Try.prog) w B 30 ty 53 i0 (.agg #[.int .u32 0, .slice none 0 0]) 2 32 Try.underlying30 hi hi0 hi1 hi2 rfl (by decide) v n xs hown ⟨g, 0, none⟩ 1 c [x, y] rfl hu1 (fun u hu => by simp only [List.mem_cons, List.not_mem_nil, or_false] at hu; rcases hu with rfl | rfl <;> assumption) (by unfold maxLen; omega) (by omega) hB
  obtain ⟨ao, c2, rfl⟩ := own_shape h2
  exact ⟨ao, c2, w', hr, h2, h3⟩
theorem own_neSetQ {W : World} {B n sz b m : Nat} {e : TypeId} {v : Value} {xs : List Value} {D : SetD} (h : W.ownsRow B e sz v n xs) (s : SetAt W b m D) : ∀ k, v.ownBlock = some k → ¬ k = b := by
  intro k hk e1
  subst e1
  obtain ⟨es, cl, h1, _⟩ := s
  rcases h.2 with ⟨hv, _⟩ | ⟨g, c, cur, hv, _, hh, _⟩
  · rw [hv] at hk; cases hk
  · rw [hv] at hk
    have e2 : g = k := by simpa [Value.ownBlock] using hk
    subst e2
    rw [hh] at h1
    simp at h1
/-- While a chain is read. -/
structure RDw (w V W : World) (mb pages : Nat) (f : Nat → Bool) (acc : List (Nat × List Nat)) (ao : Option Addr) (cc : Nat) (N : List Bt) : Prop where
  base : Fr (fun k => k = mb) V W
  row : W.ownsRow V.heap.size 53 2 (.slice ao N.length cc) N.length (btCs N)
  new_ : ∀ x ∈ N, NewX w W x
  dis : ∀ (j k : Nat) (x y : Bt) (b : Nat), N[j]? = some x → N[k]? = some y → x.na.map (·.block) = some b → y.na.map (·.block) = some b → j = k
  key : N.map Bt.key = acc
  set : ∃ D m, SetAt W mb m D ∧ Agr D f ∧ m ≤ wtK acc
  cnt : wtK acc + cntR pages f ≤ pages
theorem NewX.frS {w W W' : World} {S : Nat → Prop} {b m : Nat} {D : SetD} {x : Bt} (h : NewX w W x) (s : SetAt W b m D) (f : Fr S W W') (hS : ∀ k, S k → k = b) : NewX w W' x :=
  h.fr f (fun k hk e => own_neSetQ h.own s k hk (hS k e)) (fun he e => NRow.neSet h.row s he (hS _ e))
theorem RDw.next {p q : Int} {w V W W3 W4 W5 W6 : World} {mb pages no xc cc c6 m2 : Nat} {f : Nat → Bool} {acc : List (Nat × List Nat)} {ao xa a6 : Option Addr} {N : List Bt} {ns : List Nat} {D2 : SetD} (h : RDw w V W mb pages f acc ao cc N) (hwV : w.heap.size ≤ V.heap.size) (s3 : Same W W3)
    (o3 : W3.ownsRow W.heap.size 28 1 (.slice xa ns.length xc) ns.length (ncells ns)) (st3 : ∃ D m, SetAt W3 mb m D) (st4 : SetAt W4 mb m2 D2) (hm2 : m2 ≤ wtK acc + (ns.length + 1)) (f4 : Fr (fun k => k = mb) W3 W4) (ha : Agr D2 (nxR f no ns)) (hc : okR p q pages f no ns = true)
    (s5 : Same W4 W5) (g6 : W5.grownBy W6 (Value.slice ao N.length cc).ownBlock) (o6 : W6.ownsRow V.heap.size 53 2 (.slice a6 (N.length + 1) c6) (N.length + 1) (btCs N ++ [.int .u32 (no : Int), .slice xa ns.length xc])) :
    ∃ N', RDw w V W6 mb pages (nxR f no ns) (acc ++ [(no, ns)]) a6 c6 N' ∧ N'.length = N.length + 1 := by
  obtain ⟨D3, m3, st3⟩ := st3
  have hzV : V.heap.size ≤ W.heap.size := h.base.size
  have hz : w.heap.size ≤ W.heap.size := Nat.le_trans hwV hzV
  have rN3 := own_frameB h.row s3 (fun _ _ e => e)
  have rN : W5.ownsRow V.heap.size 53 2 (.slice ao N.length cc) N.length (btCs N) := own_frameB (own_frameB rN3 f4 (own_neSetQ rN3 st3)) s5 (fun _ _ e => e)
  have st5 : SetAt W5 mb m2 D2 := st4.fr s5 (fun e => e)
  have f6 : Fr (fun b => (Value.slice ao N.length cc).ownBlock = some b) W5 W6 := Fr.grown (Fr.refl _ _) g6 (fun b e _ => e)
  have nb6 : ∀ (x : Bt), NewX w W5 x → NewX w W6 x := fun x hx => by
    rcases rN.2 with ⟨hv, _⟩ | ⟨g, c, cur, hv, _, hh, _⟩
    · exact hx.fr f6 (fun k hk e => by rw [hv] at e; cases e) (fun _ e => by rw [hv] at e; cases e)
    · refine hx.fr f6 (fun k hk e => ?_) (fun he e => ?_)
      · rw [hv] at e
        have e2 : g = k := by simpa [Value.ownBlock] using e
        subst e2
        exact own_neT hx.own hh (by decide) g hk rfl
      · rw [hv] at e
        have e2 : g = x.nb := by simpa [Value.ownBlock] using e
        have hk : (Value.slice x.na x.ns.length x.nc).ownBlock = some x.nb := by rw [(hx.row.place he).1]; rfl
        exact own_neT hx.own hh (by decide) x.nb hk e2.symm
  have new5 : ∀ x, NewX w W x → NewX w W5 x := fun x hx => ((hx.fr s3 (fun _ _ e => e) (fun _ e => e)).frS st3 f4 (fun _ e => e)).fr s5 (fun _ _ e => e) (fun _ e => e)
  have o5 : W5.ownsRow W.heap.size 28 1 (.slice xa ns.length xc) ns.length (ncells ns) := own_frameB (own_frameB o3 f4 (own_neSetQ o3 st3)) s5 (fun _ _ e => e)
  obtain ⟨nb, hnb⟩ := own_nrow o5 rfl
  have hx5 : NewX w W5 ⟨no, xa, nb, 0, xc, ns⟩ := ⟨rfl, own_base o5 hz, hnb⟩
  have c1 := ok_cnt hc
  have hlt : ∀ (x : Bt) (b : Nat), x ∈ N → x.na.map (·.block) = some b → b < W.heap.size := fun x b hx hb => by
    cases e : x.na with
    | none => rw [e] at hb; cases hb
    | some a =>
      have hr := (h.new_ x hx).own
      rw [e] at hr hb
      have := own_ge hr
      have e2 : a.block = b := by simpa using hb
      omega
  have hge : ∀ b, xa.map (·.block) = some b → W.heap.size ≤ b := fun b hb => own_blk o3 b (blk_of.trans hb)
  have two : ∀ (i : Nat) (x : Bt), (N ++ [⟨no, xa, nb, 0, xc, ns⟩])[i]? = some x → N[i]? = some x ∨ (i = N.length ∧ x = ⟨no, xa, nb, 0, xc, ns⟩) := fun i x hx => by
    by_cases hi : i < N.length
    · left; rw [List.getElem?_append_left hi] at hx; exact hx
    · right
      rw [List.getElem?_append_right (by omega)] at hx
      have h0 : i - N.length = 0 := by have := (List.getElem?_eq_some_iff.1 hx).1; simp at this; omega
      rw [h0] at hx
      exact ⟨by omega, (by simpa using hx.symm)⟩
  refine ⟨N ++ [⟨no, xa, nb, 0, xc, ns⟩], ⟨Fr.trans (Fr.trans (Fr.trans (Fr.trans h.base s3 (fun _ _ e => e.elim)) f4 (fun _ _ e => e)) s5 (fun _ _ e => e.elim)) f6 (fun k hk e => by have e1 := own_blk rN k e; omega), ?_, fun x hx => ?_, fun j k x y b hx hy hbx hby => ?_, ?_, ⟨D2, m2, st5.fr f6 (fun e => own_neSetQ rN st5 mb e rfl), ha, by rw [wtK_app]; exact hm2⟩, ?_⟩, by simp⟩
  · rw [List.length_append, List.length_singleton, btCs_app]
    exact o6
  · rcases List.mem_append.1 hx with hx | hx
    · exact nb6 x (new5 x (h.new_ x hx))
    · obtain rfl : x = ⟨no, xa, nb, 0, xc, ns⟩ := by simpa using hx
      exact nb6 _ hx5
  · rcases two j x hx with hj | ⟨hj, rfl⟩ <;> rcases two k y hy with hk | ⟨hk, rfl⟩
    · exact h.dis j k x y b hj hk hbx hby
    · have e1 := hlt x b (List.mem_of_getElem? hj) hbx
      have e2 := hge b hby
      omega
    · have e1 := hlt y b (List.mem_of_getElem? hk) hby
      have e2 := hge b hbx
      omega
    · omega
  · rw [List.map_append, h.key]; rfl
  · rw [wtK_app]
    have := h.cnt
    show wtK acc + (ns.length + 1) + _ ≤ _
    omega
/-- The frame while a chain is read. -/
structure IRD (v1 : Value) (fb ob : Nat) (a : Act) : Prop where
  size : a.tmps.size = 49
  defers : a.defers = []
  s1 : a.eval (.tmp 1) = v1
  s4 : a.eval (.tmp 4) = .pointer (some ⟨fb, 0, none⟩)
  s10 : a.eval (.tmp 10) = .pointer (some ⟨ob, 0, none⟩)
theorem IRD.keep {v1 : Value} {fb ob : Nat} {a0 a : Act} {env : List (Nat × Value)} (h : IRD v1 fb ob a0) (f : Fe a0 env a) (h1 : look env 1 (a0.eval (.tmp 1)) = a0.eval (.tmp 1)) (h4 : look env 4 (a0.eval (.tmp 4)) = a0.eval (.tmp 4)) (h10 : look env 10 (a0.eval (.tmp 10)) = a0.eval (.tmp 10)) : IRD v1 fb ob a :=
  ⟨f.size.trans h.size, f.defers.trans h.defers, ((f.at_ 1).trans h1).trans h.s1, ((f.at_ 4).trans h4).trans h.s4, ((f.at_ 10).trans h10).trans h.s10⟩
set_option maxRecDepth 100000 in
set_option maxHeartbeats 1000000 in
theorem rd_a {p q : Int} {er : Int} {bb fb ob at_ : Nat} {Q : Exit → Act → World → Prop} (a0 : Act) (wr : World) (I0 : IRD (.iface 33 (.pointer (some ⟨bb, 0, none⟩))) fb ob a0) (h13 : a0.eval (.tmp 13) = .int .u32 (at_ : Int)) (h0 : at_ ≠ 0)
    (d0 : wr.cell? ⟨fb, 0, none⟩ = some (.int .i64 p)) (d1 : wr.cell? ⟨fb, 1, none⟩ = some (.int .i64 q)) (he : ¬ er = 0)
    (kO : ∀ Z, Same wr Z → Calls Try.prog 12 #[.agg #[.int .i64 p, .int .i64 q], .iface 33 (.pointer (some ⟨bb, 0, none⟩)), .int .u32 (at_ : Int)] Z fun e w' => e = .returned (.tuple #[.agg #[.int .u32 0, .slice none 0 0], .int .u32 0, .int .i64 er]) ∧ Same Z w')
    (hQ : ∀ a W, a.defers = [] → a.eval (.tmp 8) = .slice none 0 0 → a.eval (.tmp 9) = .int .i64 er → Same wr W → Q .ret a W) : cRD1.wp Try.prog Q a0 wr := by
  have hai : ¬ (at_ : Int) = 0 := by omega
  have had : ((at_ : Int) == 0) = false := by simpa using hai
  have h0n : ¬ at_ = 0 := h0
  have hed : (er == 0) = false := by simpa using he
  have g_0 := Fe.refl a0
  unfold cRD1
  refine wp_seq (wp_seq ?_)
  refine wp_region_list ?_
  unfold rRD8
  refine g_0.move 27 (.int .u32 (at_ : Int)) _ (Or.inl rfl) rfl (lb_ I0.size) (wn rfl) ((g_0.at_ 13).trans h13) (fun x_1 g_1 => ?_)
  clear g_0
  have r_2 : (execOp x_1.eval oQD0).run Try.prog (wr) = .ok (.value (.bool true)) (wr) := by
    unfold oQD0
    have kc : ∀ v, x_1.eval (.const v) = v := fun _ => rfl
    have e27 : x_1.eval (.tmp 27) = .int .u32 (at_ : Int) := g_1.at_ 27
    clear g_1 hQ h13
    generalize x_1.eval = ρ at *
    go_simp
  refine g_1.step 28 _ rfl (lb_ I0.size) (wn rfl) r_2 (fun x_2 g_2 => ?_)
  clear r_2 g_1
  refine wpList_nil ?_
  change Code.wp _ _ _ _ _
  refine wp_cond_true (show x_2.eval (.tmp 28) = .bool true from (g_2.at_ 28)) (wp_skip ?_)
  change Code.wp _ _ _ _ _
  refine wp_block (wp_seq ?_)
  refine wp_region_list ?_
  unfold rRD9
  have r_3 : (execOp x_2.eval oQD1).run Try.prog (wr) = .ok (.value (.pointer (some ⟨wr.heap.size, 0, none⟩))) (wr.alloc (.cells #[.int .u32 0, .slice none 0 0] 53)) := by
    unfold oQD1
    clear g_2 hQ h13
    generalize x_2.eval = ρ at *
    go_simp
  refine g_2.stepW 14 (.pointer (some ⟨wr.heap.size, 0, none⟩)) rfl (lb_ I0.size) (wn rfl) r_3 (fun x_3 g_3 => ?_)
  clear r_3 g_2
  refine wpList_nil ?_
  obtain ⟨W1, hW1⟩ : ∃ W1, W1 = wr.alloc (.cells #[.int .u32 0, .slice none 0 0] 53) := ⟨_, rfl⟩
  rw [← hW1]
  have s1 : Same wr W1 := by rw [hW1]; exact (Fr.refl _ wr).alloc _
  have r1 : W1.heap[wr.heap.size]? = some (.cells #[.int .u32 0, .slice none 0 0] 53 (0, 0)) := by rw [hW1]; exact heap_alloc_new wr _
  clear hW1
  have z1 := s1.size
  have d0x := s1.keep d0
  have d1x := s1.keep d1
  change Code.wp _ _ _ _ _
  refine wp_seq ?_
  refine wp_region_list ?_
  unfold rRD10
  have r_4 : (execOp x_3.eval oQD2).run Try.prog (W1) = .ok (.value (.agg #[.int .i64 p, .int .i64 q])) (W1) := by
    unfold oQD2
    have e4 := (show x_3.eval (.tmp 4) = .pointer (some ⟨fb, 0, none⟩) from ((g_3.at_ 4).trans I0.s4))
    clear g_3 hQ h13
    generalize x_3.eval = ρ at *
    go_simp
  refine g_3.step 30 _ rfl (lb_ I0.size) (wn rfl) r_4 (fun x_4 g_4 => ?_)
  clear r_4 g_3
  refine g_4.move 31 (.iface 33 (.pointer (some ⟨bb, 0, none⟩))) _ (Or.inl rfl) rfl (lb_ I0.size) (wn rfl) ((g_4.at_ 1).trans I0.s1) (fun x_5 g_5 => ?_)
  clear g_4
  refine g_5.move 32 (.int .u32 (at_ : Int)) _ (Or.inl rfl) rfl (lb_ I0.size) (wn rfl) ((g_5.at_ 13).trans h13) (fun x_6 g_6 => ?_)
  clear g_5
  have r_7 : (execOp x_6.eval oQD3).run Try.prog (W1) = .ok (.enter 12 #[.agg #[.int .i64 p, .int .i64 q], .iface 33 (.pointer (some ⟨bb, 0, none⟩)), .int .u32 (at_ : Int)]) (W1) := by
    unfold oQD3
    have kf : ∀ f, x_6.eval (.func f) = .func (.func f) #[] #[] := fun _ => rfl
    have e30 : x_6.eval (.tmp 30) = .agg #[.int .i64 p, .int .i64 q] := g_6.at_ 30
    have e31 : x_6.eval (.tmp 31) = .iface 33 (.pointer (some ⟨bb, 0, none⟩)) := g_6.at_ 31
    have e32 : x_6.eval (.tmp 32) = .int .u32 (at_ : Int) := g_6.at_ 32
    clear g_6 hQ h13
    generalize x_6.eval = ρ at *
    go_simp
  refine g_6.call 33 rfl (lb_ I0.size) (wn rfl) r_7 (kO W1 s1) (fun e W2 hR => ?_)
  obtain ⟨rfl, s2⟩ := hR
  clear r_7
  have r1b := (s2.block _ (lt_of_heap r1) (fun f => f)).trans r1
  obtain ⟨W3, hW3, r3, f3, th3⟩ := store_box (cells := #[.int .u32 0, .slice none 0 0]) r1b rfl
  refine ⟨_, rfl, fun x_7 g_7 => ?_⟩
  clear g_6
  refine g_7.move 29 (.tuple #[.agg #[.int .u32 0, .slice none 0 0], .int .u32 0, .int .i64 er]) _ (Or.inl rfl) rfl (lb_ I0.size) (wn rfl) (g_7.at_ 33) (fun x_8 g_8 => ?_)
  clear g_7
  have r_9 : (execOp x_8.eval oQD4).run Try.prog (W2) = .ok (.value (.agg #[.int .u32 0, .slice none 0 0])) (W2) := by
    unfold oQD4
    have e29 : x_8.eval (.tmp 29) = .tuple #[.agg #[.int .u32 0, .slice none 0 0], .int .u32 0, .int .i64 er] := g_8.at_ 29
    clear g_8 hQ h13
    generalize x_8.eval = ρ at *
    go_simp
  refine g_8.step 34 _ rfl (lb_ I0.size) (wn rfl) r_9 (fun x_9 g_9 => ?_)
  clear r_9 g_8
  have r_10 : (execOp x_9.eval oQD5).run Try.prog (W2) = .ok (.value (.int .u32 0)) (W2) := by
    unfold oQD5
    have e29 : x_9.eval (.tmp 29) = .tuple #[.agg #[.int .u32 0, .slice none 0 0], .int .u32 0, .int .i64 er] := g_9.at_ 29
    clear g_9 hQ h13
    generalize x_9.eval = ρ at *
    go_simp
  refine g_9.step 35 _ rfl (lb_ I0.size) (wn rfl) r_10 (fun x_10 g_10 => ?_)
  clear r_10 g_9
  have r_11 : (execOp x_10.eval oQD6).run Try.prog (W2) = .ok (.value (.int .i64 er)) (W2) := by
    unfold oQD6
    have e29 : x_10.eval (.tmp 29) = .tuple #[.agg #[.int .u32 0, .slice none 0 0], .int .u32 0, .int .i64 er] := g_10.at_ 29
    clear g_10 hQ h13
    generalize x_10.eval = ρ at *
    go_simp
  refine g_10.step 36 _ rfl (lb_ I0.size) (wn rfl) r_11 (fun x_11 g_11 => ?_)
  clear r_11 g_10
  have r_12 : (execOp x_11.eval oQD7).run Try.prog (W2) = .ok .skip (W3) := by
    unfold oQD7
    refine exec_storeQ rfl ?_
    rw [(show x_11.eval (.tmp 14) = .pointer (some ⟨wr.heap.size, 0, none⟩) from (g_11.at_ 14)), (show x_11.eval (.tmp 34) = .agg #[.int .u32 0, .slice none 0 0] from (g_11.at_ 34)), hW3]
    exact run_storeAt_mid _ wr.heap.size 0 53 #[.int .u32 0, .slice none 0 0] th3 (by kernel_rfl) (by kernel_rfl)
  refine g_11.store rfl (wn rfl) r_12 (fun x_12 g_12 => ?_)
  clear r_12 hW3
  clear g_11
  refine g_12.move 13 (.int .u32 0) _ (Or.inr rfl) rfl (lb_ I0.size) (wn rfl) (g_12.at_ 35) (fun x_13 g_13 => ?_)
  clear g_12
  refine g_13.move 11 (.int .i64 er) _ (Or.inr rfl) rfl (lb_ I0.size) (wn rfl) (g_13.at_ 36) (fun x_14 g_14 => ?_)
  clear g_13
  refine wpList_nil ?_
  have s3 : Same wr W3 := Fr.trans (s1.trans s2) f3 (fun k hk e => by omega)
  change Code.wp _ _ _ _ _
  refine wp_seq (wp_seq ?_)
  refine wp_region_list ?_
  unfold rRD11
  refine g_14.move 37 (.int .i64 er) _ (Or.inl rfl) rfl (lb_ I0.size) (wn rfl) (g_14.at_ 11) (fun x_15 g_15 => ?_)
  clear g_14
  have r_16 : (execOp x_15.eval oQD8).run Try.prog (W3) = .ok (.value (.bool true)) (W3) := by
    unfold oQD8
    have kc : ∀ v, x_15.eval (.const v) = v := fun _ => rfl
    have e37 : x_15.eval (.tmp 37) = .int .i64 er := g_15.at_ 37
    clear g_15 hQ h13
    generalize x_15.eval = ρ at *
    go_simp
  refine g_15.step 38 _ rfl (lb_ I0.size) (wn rfl) r_16 (fun x_16 g_16 => ?_)
  clear r_16 g_15
  refine wpList_nil ?_
  change Code.wp _ _ _ _ _
  refine wp_cond_true (show x_16.eval (.tmp 38) = .bool true from (g_16.at_ 38)) (wp_seq ?_)
  refine wp_region_list ?_
  unfold rRD12
  refine g_16.move 39 (.int .i64 er) _ (Or.inl rfl) rfl (lb_ I0.size) (wn rfl) (g_16.at_ 11) (fun x_17 g_17 => ?_)
  clear g_16
  refine g_17.move 8 (.slice none 0 0) _ (Or.inr rfl) rfl (lb_ I0.size) (wn rfl) rfl (fun x_18 g_18 => ?_)
  clear g_17
  refine g_18.move 9 (.int .i64 er) _ (Or.inr rfl) rfl (lb_ I0.size) (wn rfl) (g_18.at_ 39) (fun x_19 g_19 => ?_)
  clear g_18
  refine wpList_nil ?_
  change Code.wp _ _ _ _ _
  refine wp_ret ?_
  exact hQ x_19 W3 (g_19.defers.trans I0.defers) (show x_19.eval (.tmp 8) = .slice none 0 0 from (g_19.at_ 8)) (show x_19.eval (.tmp 9) = .int .i64 er from (g_19.at_ 9)) s3
set_option maxRecDepth 100000 in
set_option maxHeartbeats 1000000 in
theorem rd_c {p q : Int} {bb fb ob at_ cc nx mb pages : Nat} {ao : Option Addr} {f : Nat → Bool} {acc : List (Nat × List Nat)} {N : List Bt} {ns : List Nat} {Q : Exit → Act → World → Prop} (a0 : Act) (w V wr : World) (I0 : IRD (.iface 33 (.pointer (some ⟨bb, 0, none⟩))) fb ob a0) (h13 : a0.eval (.tmp 13) = .int .u32 (at_ : Int)) (h0 : at_ ≠ 0)
    (d0 : wr.cell? ⟨fb, 0, none⟩ = some (.int .i64 p)) (d1 : wr.cell? ⟨fb, 1, none⟩ = some (.int .i64 q))
    (o0_ : wr.cell? ⟨ob, 0, none⟩ = some (.int .i64 p)) (o1_ : wr.cell? ⟨ob, 1, none⟩ = some (.int .i64 q)) (o2_ : wr.cell? ⟨ob, 2, none⟩ = some (.int .u32 (pages : Int))) (o3_ : wr.cell? ⟨ob, 3, none⟩ = some (.map (some mb)))
    (hw : RDw w V wr mb pages f acc ao cc N) (hok : okR p q pages f at_ ns = false) (hns : ∀ y ∈ ns, y < 4294967296) (hat : at_ < 4294967296) (hl : ns.length ≤ 70000) (hpg : pages ≤ 65536)
    (kO : ∀ Z, Same wr Z → Calls Try.prog 12 #[.agg #[.int .i64 p, .int .i64 q], .iface 33 (.pointer (some ⟨bb, 0, none⟩)), .int .u32 (at_ : Int)] Z fun e w' => (∃ xa xc, e = .returned (.tuple #[.agg #[.int .u32 (at_ : Int), .slice xa ns.length xc], .int .u32 (nx : Int), .int .i64 0]) ∧ w'.ownsRow Z.heap.size 28 1 (.slice xa ns.length xc) ns.length (ncells ns)) ∧ Same Z w')
    (hQ : ∀ a W, a.defers = [] → a.eval (.tmp 8) = .slice none 0 0 → a.eval (.tmp 9) = .int .i64 8 → Fr (fun k => k = mb) wr W → Q .ret a W) : cRD1.wp Try.prog Q a0 wr := by
  have hai : ¬ (at_ : Int) = 0 := by omega
  have had : ((at_ : Int) == 0) = false := by simpa using hai
  have h0n : ¬ at_ = 0 := h0
  have g_0 := Fe.refl a0
  unfold cRD1
  refine wp_seq (wp_seq ?_)
  refine wp_region_list ?_
  unfold rRD8
  refine g_0.move 27 (.int .u32 (at_ : Int)) _ (Or.inl rfl) rfl (lb_ I0.size) (wn rfl) ((g_0.at_ 13).trans h13) (fun x_1 g_1 => ?_)
  clear g_0
  have r_2 : (execOp x_1.eval oQD0).run Try.prog (wr) = .ok (.value (.bool true)) (wr) := by
    unfold oQD0
    have kc : ∀ v, x_1.eval (.const v) = v := fun _ => rfl
    have e27 : x_1.eval (.tmp 27) = .int .u32 (at_ : Int) := g_1.at_ 27
    clear g_1 hQ h13
    generalize x_1.eval = ρ at *
    go_simp
  refine g_1.step 28 _ rfl (lb_ I0.size) (wn rfl) r_2 (fun x_2 g_2 => ?_)
  clear r_2 g_1
  refine wpList_nil ?_
  change Code.wp _ _ _ _ _
  refine wp_cond_true (show x_2.eval (.tmp 28) = .bool true from (g_2.at_ 28)) (wp_skip ?_)
  change Code.wp _ _ _ _ _
  refine wp_block (wp_seq ?_)
  refine wp_region_list ?_
  unfold rRD9
  have r_3 : (execOp x_2.eval oQD1).run Try.prog (wr) = .ok (.value (.pointer (some ⟨wr.heap.size, 0, none⟩))) (wr.alloc (.cells #[.int .u32 0, .slice none 0 0] 53)) := by
    unfold oQD1
    clear g_2 hQ h13
    generalize x_2.eval = ρ at *
    go_simp
  refine g_2.stepW 14 (.pointer (some ⟨wr.heap.size, 0, none⟩)) rfl (lb_ I0.size) (wn rfl) r_3 (fun x_3 g_3 => ?_)
  clear r_3 g_2
  refine wpList_nil ?_
  obtain ⟨W1, hW1⟩ : ∃ W1, W1 = wr.alloc (.cells #[.int .u32 0, .slice none 0 0] 53) := ⟨_, rfl⟩
  rw [← hW1]
  have s1 : Same wr W1 := by rw [hW1]; exact (Fr.refl _ wr).alloc _
  have r1 : W1.heap[wr.heap.size]? = some (.cells #[.int .u32 0, .slice none 0 0] 53 (0, 0)) := by rw [hW1]; exact heap_alloc_new wr _
  clear hW1
  have z1 := s1.size
  have d0x := s1.keep d0
  have d1x := s1.keep d1
  change Code.wp _ _ _ _ _
  refine wp_seq ?_
  refine wp_region_list ?_
  unfold rRD10
  have r_4 : (execOp x_3.eval oQD2).run Try.prog (W1) = .ok (.value (.agg #[.int .i64 p, .int .i64 q])) (W1) := by
    unfold oQD2
    have e4 := (show x_3.eval (.tmp 4) = .pointer (some ⟨fb, 0, none⟩) from ((g_3.at_ 4).trans I0.s4))
    clear g_3 hQ h13
    generalize x_3.eval = ρ at *
    go_simp
  refine g_3.step 30 _ rfl (lb_ I0.size) (wn rfl) r_4 (fun x_4 g_4 => ?_)
  clear r_4 g_3
  refine g_4.move 31 (.iface 33 (.pointer (some ⟨bb, 0, none⟩))) _ (Or.inl rfl) rfl (lb_ I0.size) (wn rfl) ((g_4.at_ 1).trans I0.s1) (fun x_5 g_5 => ?_)
  clear g_4
  refine g_5.move 32 (.int .u32 (at_ : Int)) _ (Or.inl rfl) rfl (lb_ I0.size) (wn rfl) ((g_5.at_ 13).trans h13) (fun x_6 g_6 => ?_)
  clear g_5
  have r_7 : (execOp x_6.eval oQD3).run Try.prog (W1) = .ok (.enter 12 #[.agg #[.int .i64 p, .int .i64 q], .iface 33 (.pointer (some ⟨bb, 0, none⟩)), .int .u32 (at_ : Int)]) (W1) := by
    unfold oQD3
    have kf : ∀ f, x_6.eval (.func f) = .func (.func f) #[] #[] := fun _ => rfl
    have e30 : x_6.eval (.tmp 30) = .agg #[.int .i64 p, .int .i64 q] := g_6.at_ 30
    have e31 : x_6.eval (.tmp 31) = .iface 33 (.pointer (some ⟨bb, 0, none⟩)) := g_6.at_ 31
    have e32 : x_6.eval (.tmp 32) = .int .u32 (at_ : Int) := g_6.at_ 32
    clear g_6 hQ h13
    generalize x_6.eval = ρ at *
    go_simp
  refine g_6.call 33 rfl (lb_ I0.size) (wn rfl) r_7 (kO W1 s1) (fun e W2 hR => ?_)
  obtain ⟨⟨xa, xc, rfl, o2⟩, s2⟩ := hR
  clear r_7
  have r1b := (s2.block _ (lt_of_heap r1) (fun f => f)).trans r1
  obtain ⟨W3, hW3, r3, f3, th3⟩ := store_box (cells := #[.int .u32 (at_ : Int), .slice xa ns.length xc]) r1b rfl
  refine ⟨_, rfl, fun x_7 g_7 => ?_⟩
  clear g_6
  refine g_7.move 29 (.tuple #[.agg #[.int .u32 (at_ : Int), .slice xa ns.length xc], .int .u32 (nx : Int), .int .i64 0]) _ (Or.inl rfl) rfl (lb_ I0.size) (wn rfl) (g_7.at_ 33) (fun x_8 g_8 => ?_)
  clear g_7
  have r_9 : (execOp x_8.eval oQD4).run Try.prog (W2) = .ok (.value (.agg #[.int .u32 (at_ : Int), .slice xa ns.length xc])) (W2) := by
    unfold oQD4
    have e29 : x_8.eval (.tmp 29) = .tuple #[.agg #[.int .u32 (at_ : Int), .slice xa ns.length xc], .int .u32 (nx : Int), .int .i64 0] := g_8.at_ 29
    clear g_8 hQ h13
    generalize x_8.eval = ρ at *
    go_simp
  refine g_8.step 34 _ rfl (lb_ I0.size) (wn rfl) r_9 (fun x_9 g_9 => ?_)
  clear r_9 g_8
  have r_10 : (execOp x_9.eval oQD5).run Try.prog (W2) = .ok (.value (.int .u32 (nx : Int))) (W2) := by
    unfold oQD5
    have e29 : x_9.eval (.tmp 29) = .tuple #[.agg #[.int .u32 (at_ : Int), .slice xa ns.length xc], .int .u32 (nx : Int), .int .i64 0] := g_9.at_ 29
    clear g_9 hQ h13
    generalize x_9.eval = ρ at *
    go_simp
  refine g_9.step 35 _ rfl (lb_ I0.size) (wn rfl) r_10 (fun x_10 g_10 => ?_)
  clear r_10 g_9
  have r_11 : (execOp x_10.eval oQD6).run Try.prog (W2) = .ok (.value (.int .i64 0)) (W2) := by
    unfold oQD6
    have e29 : x_10.eval (.tmp 29) = .tuple #[.agg #[.int .u32 (at_ : Int), .slice xa ns.length xc], .int .u32 (nx : Int), .int .i64 0] := g_10.at_ 29
    clear g_10 hQ h13
    generalize x_10.eval = ρ at *
    go_simp
  refine g_10.step 36 _ rfl (lb_ I0.size) (wn rfl) r_11 (fun x_11 g_11 => ?_)
  clear r_11 g_10
  have r_12 : (execOp x_11.eval oQD7).run Try.prog (W2) = .ok .skip (W3) := by
    unfold oQD7
    refine exec_storeQ rfl ?_
    rw [(show x_11.eval (.tmp 14) = .pointer (some ⟨wr.heap.size, 0, none⟩) from (g_11.at_ 14)), (show x_11.eval (.tmp 34) = .agg #[.int .u32 (at_ : Int), .slice xa ns.length xc] from (g_11.at_ 34)), hW3]
    exact run_storeAt_mid _ wr.heap.size 0 53 #[.int .u32 (at_ : Int), .slice xa ns.length xc] th3 (by kernel_rfl) (by kernel_rfl)
  refine g_11.store rfl (wn rfl) r_12 (fun x_12 g_12 => ?_)
  clear r_12 hW3
  clear g_11
  refine g_12.move 13 (.int .u32 (nx : Int)) _ (Or.inr rfl) rfl (lb_ I0.size) (wn rfl) (g_12.at_ 35) (fun x_13 g_13 => ?_)
  clear g_12
  refine g_13.move 11 (.int .i64 0) _ (Or.inr rfl) rfl (lb_ I0.size) (wn rfl) (g_13.at_ 36) (fun x_14 g_14 => ?_)
  clear g_13
  refine wpList_nil ?_
  have s3 : Same wr W3 := Fr.trans (s1.trans s2) f3 (fun k hk e => by omega)
  change Code.wp _ _ _ _ _
  refine wp_seq (wp_seq ?_)
  refine wp_region_list ?_
  unfold rRD11
  refine g_14.move 37 (.int .i64 0) _ (Or.inl rfl) rfl (lb_ I0.size) (wn rfl) (g_14.at_ 11) (fun x_15 g_15 => ?_)
  clear g_14
  have r_16 : (execOp x_15.eval oQD8).run Try.prog (W3) = .ok (.value (.bool false)) (W3) := by
    unfold oQD8
    have kc : ∀ v, x_15.eval (.const v) = v := fun _ => rfl
    have e37 : x_15.eval (.tmp 37) = .int .i64 0 := g_15.at_ 37
    clear g_15 hQ h13
    generalize x_15.eval = ρ at *
    go_simp
  refine g_15.step 38 _ rfl (lb_ I0.size) (wn rfl) r_16 (fun x_16 g_16 => ?_)
  clear r_16 g_15
  refine wpList_nil ?_
  change Code.wp _ _ _ _ _
  refine wp_cond_false (show x_16.eval (.tmp 38) = .bool false from (g_16.at_ 38)) (wp_skip ?_)
  change Code.wp _ _ _ _ _
  refine wp_seq (wp_seq ?_)
  have o3 := own_frameB o2 f3 (fun k hk e => own_neT (own_base o2 (Nat.zero_le _)) r1b (by decide) k hk e)
  have o3b := own_base o3 s1.size
  obtain ⟨nb, hnr⟩ := own_nrow o3 rfl
  have q0 := s3.keep o0_
  have q1 := s3.keep o1_
  have q2 := s3.keep o2_
  have q3 := s3.keep o3_
  have t0 : W3.cell? ⟨wr.heap.size, 0, none⟩ = some (.int .u32 (at_ : Int)) := (cell_of_row _ _ _ _ _ _ r3).trans rfl
  have t1 : W3.cell? ⟨wr.heap.size, 1, none⟩ = some (.slice xa ns.length xc) := (cell_of_row _ _ _ _ _ _ r3).trans rfl
  obtain ⟨D, m, st, ha, hm⟩ := hw.set
  have st3 : SetAt W3 mb m D := st.fr s3 (fun e => e)
  have hmb : m ≤ 70000 := by have := hw.cnt; omega
  obtain ⟨k1, k2⟩ := ob_agr ha (p := p) (q := q) (pages := pages) at_ ns
  rw [hok] at k1 k2
  have kW := fownBatch_calls (p := p) (q := q) (pages := pages) (pg := at_) (cp := xc) W3 hnr st3 (by omega) (by omega) hns hat
  rw [k1] at kW
  refine wp_region_list ?_
  unfold rRD13
  have r_17 : (execOp x_16.eval oQD9).run Try.prog (W3) = .ok (.value (.agg #[.int .i64 p, .int .i64 q, .int .u32 (pages : Int), .map (some mb)])) (W3) := by
    unfold oQD9
    have e10 := (show x_16.eval (.tmp 10) = .pointer (some ⟨ob, 0, none⟩) from ((g_16.at_ 10).trans I0.s10))
    clear g_16 hQ h13
    generalize x_16.eval = ρ at *
    go_simp
  refine g_16.step 40 _ rfl (lb_ I0.size) (wn rfl) r_17 (fun x_17 g_17 => ?_)
  clear r_17 g_16
  have r_18 : (execOp x_17.eval oQD10).run Try.prog (W3) = .ok (.value (.agg #[.int .u32 (at_ : Int), .slice xa ns.length xc])) (W3) := by
    unfold oQD10
    have e14 : x_17.eval (.tmp 14) = .pointer (some ⟨wr.heap.size, 0, none⟩) := g_17.at_ 14
    clear g_17 hQ h13
    generalize x_17.eval = ρ at *
    go_simp
  refine g_17.step 41 _ rfl (lb_ I0.size) (wn rfl) r_18 (fun x_18 g_18 => ?_)
  clear r_18 g_17
  have r_19 : (execOp x_18.eval oQD11).run Try.prog (W3) = .ok (.enter 13 #[.agg #[.int .i64 p, .int .i64 q, .int .u32 (pages : Int), .map (some mb)], .agg #[.int .u32 (at_ : Int), .slice xa ns.length xc]]) (W3) := by
    unfold oQD11
    have kf : ∀ f, x_18.eval (.func f) = .func (.func f) #[] #[] := fun _ => rfl
    have e40 : x_18.eval (.tmp 40) = .agg #[.int .i64 p, .int .i64 q, .int .u32 (pages : Int), .map (some mb)] := g_18.at_ 40
    have e41 : x_18.eval (.tmp 41) = .agg #[.int .u32 (at_ : Int), .slice xa ns.length xc] := g_18.at_ 41
    clear g_18 hQ h13
    generalize x_18.eval = ρ at *
    go_simp
  refine g_18.call 42 rfl (lb_ I0.size) (wn rfl) r_19 (kW) (fun e W4 hR => ?_)
  obtain ⟨rfl, st4, f4⟩ := hR
  clear r_19
  refine ⟨_, rfl, fun x_19 g_19 => ?_⟩
  clear g_18
  have r_20 : (execOp x_19.eval oQD12).run Try.prog (W4) = .ok (.value (.bool true)) (W4) := by
    unfold oQD12
    have e42 : x_19.eval (.tmp 42) = .bool false := g_19.at_ 42
    clear g_19 hQ h13
    generalize x_19.eval = ρ at *
    go_simp
  refine g_19.step 43 _ rfl (lb_ I0.size) (wn rfl) r_20 (fun x_20 g_20 => ?_)
  clear r_20 g_19
  refine wpList_nil ?_
  change Code.wp _ _ _ _ _
  refine wp_cond_true (show x_20.eval (.tmp 43) = .bool true from (g_20.at_ 43)) (wp_seq ?_)
  refine wp_region_list ?_
  unfold rRD14
  refine g_20.move 8 (.slice none 0 0) _ (Or.inr rfl) rfl (lb_ I0.size) (wn rfl) rfl (fun x_21 g_21 => ?_)
  clear g_20
  refine g_21.move 9 (.int .i64 8) _ (Or.inr rfl) rfl (lb_ I0.size) (wn rfl) rfl (fun x_22 g_22 => ?_)
  clear g_21
  refine wpList_nil ?_
  change Code.wp _ _ _ _ _
  refine wp_ret ?_
  exact hQ x_22 W4 (g_22.defers.trans I0.defers) (show x_22.eval (.tmp 8) = .slice none 0 0 from (g_22.at_ 8)) (show x_22.eval (.tmp 9) = .int .i64 8 from (g_22.at_ 9)) (Fr.trans (Fr.mono s3 (fun _ _ e => e.elim)) f4 (fun _ _ e => e))
set_option maxRecDepth 100000 in
set_option maxHeartbeats 1000000 in
theorem rd_d {p q : Int} {bb fb ob at_ n cc nx mb pages : Nat} {ao : Option Addr} {f : Nat → Bool} {acc : List (Nat × List Nat)} {N : List Bt} {ns : List Nat} {Q : Exit → Act → World → Prop} (a0 : Act) (w V wr : World) (I0 : IRD (.iface 33 (.pointer (some ⟨bb, 0, none⟩))) fb ob a0) (h12 : a0.eval (.tmp 12) = .slice ao n cc) (h13 : a0.eval (.tmp 13) = .int .u32 (at_ : Int)) (h0 : at_ ≠ 0)
    (d0 : wr.cell? ⟨fb, 0, none⟩ = some (.int .i64 p)) (d1 : wr.cell? ⟨fb, 1, none⟩ = some (.int .i64 q))
    (o0_ : wr.cell? ⟨ob, 0, none⟩ = some (.int .i64 p)) (o1_ : wr.cell? ⟨ob, 1, none⟩ = some (.int .i64 q)) (o2_ : wr.cell? ⟨ob, 2, none⟩ = some (.int .u32 (pages : Int))) (o3_ : wr.cell? ⟨ob, 3, none⟩ = some (.map (some mb)))
    (hw : RDw w V wr mb pages f acc ao cc N) (hwV : w.heap.size ≤ V.heap.size) (hnl : N.length = n) (hok : okR p q pages f at_ ns = true) (hns : ∀ y ∈ ns, y < 4294967296) (hat : at_ < 4294967296) (hl : ns.length ≤ 70000) (hpg : pages ≤ 65536) (hnb : n ≤ 70000)
    (kO : ∀ Z, Same wr Z → Calls Try.prog 12 #[.agg #[.int .i64 p, .int .i64 q], .iface 33 (.pointer (some ⟨bb, 0, none⟩)), .int .u32 (at_ : Int)] Z fun e w' => (∃ xa xc, e = .returned (.tuple #[.agg #[.int .u32 (at_ : Int), .slice xa ns.length xc], .int .u32 (nx : Int), .int .i64 0]) ∧ w'.ownsRow Z.heap.size 28 1 (.slice xa ns.length xc) ns.length (ncells ns)) ∧ Same Z w')
    (hQ : ∀ a W a6 c6 N2, IRD (.iface 33 (.pointer (some ⟨bb, 0, none⟩))) fb ob a → a.eval (.tmp 12) = .slice a6 N2.length c6 → a.eval (.tmp 13) = .int .u32 (nx : Int) → RDw w V W mb pages (nxR f at_ ns) (acc ++ [(at_, ns)]) a6 c6 N2 → Q .normal a W) : cRD1.wp Try.prog Q a0 wr := by
  have hai : ¬ (at_ : Int) = 0 := by omega
  have had : ((at_ : Int) == 0) = false := by simpa using hai
  have h0n : ¬ at_ = 0 := h0
  have g_0 := Fe.refl a0
  unfold cRD1
  refine wp_seq (wp_seq ?_)
  refine wp_region_list ?_
  unfold rRD8
  refine g_0.move 27 (.int .u32 (at_ : Int)) _ (Or.inl rfl) rfl (lb_ I0.size) (wn rfl) ((g_0.at_ 13).trans h13) (fun x_1 g_1 => ?_)
  clear g_0
  have r_2 : (execOp x_1.eval oQD0).run Try.prog (wr) = .ok (.value (.bool true)) (wr) := by
    unfold oQD0
    have kc : ∀ v, x_1.eval (.const v) = v := fun _ => rfl
    have e27 : x_1.eval (.tmp 27) = .int .u32 (at_ : Int) := g_1.at_ 27
    clear g_1 hQ h12 h13
    generalize x_1.eval = ρ at *
    go_simp
  refine g_1.step 28 _ rfl (lb_ I0.size) (wn rfl) r_2 (fun x_2 g_2 => ?_)
  clear r_2 g_1
  refine wpList_nil ?_
  change Code.wp _ _ _ _ _
  refine wp_cond_true (show x_2.eval (.tmp 28) = .bool true from (g_2.at_ 28)) (wp_skip ?_)
  change Code.wp _ _ _ _ _
  refine wp_block (wp_seq ?_)
  refine wp_region_list ?_
  unfold rRD9
  have r_3 : (execOp x_2.eval oQD1).run Try.prog (wr) = .ok (.value (.pointer (some ⟨wr.heap.size, 0, none⟩))) (wr.alloc (.cells #[.int .u32 0, .slice none 0 0] 53)) := by
    unfold oQD1
    clear g_2 hQ h12 h13
    generalize x_2.eval = ρ at *
    go_simp
  refine g_2.stepW 14 (.pointer (some ⟨wr.heap.size, 0, none⟩)) rfl (lb_ I0.size) (wn rfl) r_3 (fun x_3 g_3 => ?_)
  clear r_3 g_2
  refine wpList_nil ?_
  obtain ⟨W1, hW1⟩ : ∃ W1, W1 = wr.alloc (.cells #[.int .u32 0, .slice none 0 0] 53) := ⟨_, rfl⟩
  rw [← hW1]
  have s1 : Same wr W1 := by rw [hW1]; exact (Fr.refl _ wr).alloc _
  have r1 : W1.heap[wr.heap.size]? = some (.cells #[.int .u32 0, .slice none 0 0] 53 (0, 0)) := by rw [hW1]; exact heap_alloc_new wr _
  clear hW1
  have z1 := s1.size
  have d0x := s1.keep d0
  have d1x := s1.keep d1
  change Code.wp _ _ _ _ _
  refine wp_seq ?_
  refine wp_region_list ?_
  unfold rRD10
  have r_4 : (execOp x_3.eval oQD2).run Try.prog (W1) = .ok (.value (.agg #[.int .i64 p, .int .i64 q])) (W1) := by
    unfold oQD2
    have e4 := (show x_3.eval (.tmp 4) = .pointer (some ⟨fb, 0, none⟩) from ((g_3.at_ 4).trans I0.s4))
    clear g_3 hQ h12 h13
    generalize x_3.eval = ρ at *
    go_simp
  refine g_3.step 30 _ rfl (lb_ I0.size) (wn rfl) r_4 (fun x_4 g_4 => ?_)
  clear r_4 g_3
  refine g_4.move 31 (.iface 33 (.pointer (some ⟨bb, 0, none⟩))) _ (Or.inl rfl) rfl (lb_ I0.size) (wn rfl) ((g_4.at_ 1).trans I0.s1) (fun x_5 g_5 => ?_)
  clear g_4
  refine g_5.move 32 (.int .u32 (at_ : Int)) _ (Or.inl rfl) rfl (lb_ I0.size) (wn rfl) ((g_5.at_ 13).trans h13) (fun x_6 g_6 => ?_)
  clear g_5
  have r_7 : (execOp x_6.eval oQD3).run Try.prog (W1) = .ok (.enter 12 #[.agg #[.int .i64 p, .int .i64 q], .iface 33 (.pointer (some ⟨bb, 0, none⟩)), .int .u32 (at_ : Int)]) (W1) := by
    unfold oQD3
    have kf : ∀ f, x_6.eval (.func f) = .func (.func f) #[] #[] := fun _ => rfl
    have e30 : x_6.eval (.tmp 30) = .agg #[.int .i64 p, .int .i64 q] := g_6.at_ 30
    have e31 : x_6.eval (.tmp 31) = .iface 33 (.pointer (some ⟨bb, 0, none⟩)) := g_6.at_ 31
    have e32 : x_6.eval (.tmp 32) = .int .u32 (at_ : Int) := g_6.at_ 32
    clear g_6 hQ h12 h13
    generalize x_6.eval = ρ at *
    go_simp
  refine g_6.call 33 rfl (lb_ I0.size) (wn rfl) r_7 (kO W1 s1) (fun e W2 hR => ?_)
  obtain ⟨⟨xa, xc, rfl, o2⟩, s2⟩ := hR
  clear r_7
  have r1b := (s2.block _ (lt_of_heap r1) (fun f => f)).trans r1
  obtain ⟨W3, hW3, r3, f3, th3⟩ := store_box (cells := #[.int .u32 (at_ : Int), .slice xa ns.length xc]) r1b rfl
  refine ⟨_, rfl, fun x_7 g_7 => ?_⟩
  clear g_6
  refine g_7.move 29 (.tuple #[.agg #[.int .u32 (at_ : Int), .slice xa ns.length xc], .int .u32 (nx : Int), .int .i64 0]) _ (Or.inl rfl) rfl (lb_ I0.size) (wn rfl) (g_7.at_ 33) (fun x_8 g_8 => ?_)
  clear g_7
  have r_9 : (execOp x_8.eval oQD4).run Try.prog (W2) = .ok (.value (.agg #[.int .u32 (at_ : Int), .slice xa ns.length xc])) (W2) := by
    unfold oQD4
    have e29 : x_8.eval (.tmp 29) = .tuple #[.agg #[.int .u32 (at_ : Int), .slice xa ns.length xc], .int .u32 (nx : Int), .int .i64 0] := g_8.at_ 29
    clear g_8 hQ h12 h13
    generalize x_8.eval = ρ at *
    go_simp
  refine g_8.step 34 _ rfl (lb_ I0.size) (wn rfl) r_9 (fun x_9 g_9 => ?_)
  clear r_9 g_8
  have r_10 : (execOp x_9.eval oQD5).run Try.prog (W2) = .ok (.value (.int .u32 (nx : Int))) (W2) := by
    unfold oQD5
    have e29 : x_9.eval (.tmp 29) = .tuple #[.agg #[.int .u32 (at_ : Int), .slice xa ns.length xc], .int .u32 (nx : Int), .int .i64 0] := g_9.at_ 29
    clear g_9 hQ h12 h13
    generalize x_9.eval = ρ at *
    go_simp
  refine g_9.step 35 _ rfl (lb_ I0.size) (wn rfl) r_10 (fun x_10 g_10 => ?_)
  clear r_10 g_9
  have r_11 : (execOp x_10.eval oQD6).run Try.prog (W2) = .ok (.value (.int .i64 0)) (W2) := by
    unfold oQD6
    have e29 : x_10.eval (.tmp 29) = .tuple #[.agg #[.int .u32 (at_ : Int), .slice xa ns.length xc], .int .u32 (nx : Int), .int .i64 0] := g_10.at_ 29
    clear g_10 hQ h12 h13
    generalize x_10.eval = ρ at *
    go_simp
  refine g_10.step 36 _ rfl (lb_ I0.size) (wn rfl) r_11 (fun x_11 g_11 => ?_)
  clear r_11 g_10
  have r_12 : (execOp x_11.eval oQD7).run Try.prog (W2) = .ok .skip (W3) := by
    unfold oQD7
    refine exec_storeQ rfl ?_
    rw [(show x_11.eval (.tmp 14) = .pointer (some ⟨wr.heap.size, 0, none⟩) from (g_11.at_ 14)), (show x_11.eval (.tmp 34) = .agg #[.int .u32 (at_ : Int), .slice xa ns.length xc] from (g_11.at_ 34)), hW3]
    exact run_storeAt_mid _ wr.heap.size 0 53 #[.int .u32 (at_ : Int), .slice xa ns.length xc] th3 (by kernel_rfl) (by kernel_rfl)
  refine g_11.store rfl (wn rfl) r_12 (fun x_12 g_12 => ?_)
  clear r_12 hW3
  clear g_11
  refine g_12.move 13 (.int .u32 (nx : Int)) _ (Or.inr rfl) rfl (lb_ I0.size) (wn rfl) (g_12.at_ 35) (fun x_13 g_13 => ?_)
  clear g_12
  refine g_13.move 11 (.int .i64 0) _ (Or.inr rfl) rfl (lb_ I0.size) (wn rfl) (g_13.at_ 36) (fun x_14 g_14 => ?_)
  clear g_13
  refine wpList_nil ?_
  have s3 : Same wr W3 := Fr.trans (s1.trans s2) f3 (fun k hk e => by omega)
  change Code.wp _ _ _ _ _
  refine wp_seq (wp_seq ?_)
  refine wp_region_list ?_
  unfold rRD11
  refine g_14.move 37 (.int .i64 0) _ (Or.inl rfl) rfl (lb_ I0.size) (wn rfl) (g_14.at_ 11) (fun x_15 g_15 => ?_)
  clear g_14
  have r_16 : (execOp x_15.eval oQD8).run Try.prog (W3) = .ok (.value (.bool false)) (W3) := by
    unfold oQD8
    have kc : ∀ v, x_15.eval (.const v) = v := fun _ => rfl
    have e37 : x_15.eval (.tmp 37) = .int .i64 0 := g_15.at_ 37
    clear g_15 hQ h12 h13
    generalize x_15.eval = ρ at *
    go_simp
  refine g_15.step 38 _ rfl (lb_ I0.size) (wn rfl) r_16 (fun x_16 g_16 => ?_)
  clear r_16 g_15
  refine wpList_nil ?_
  change Code.wp _ _ _ _ _
  refine wp_cond_false (show x_16.eval (.tmp 38) = .bool false from (g_16.at_ 38)) (wp_skip ?_)
  change Code.wp _ _ _ _ _
  refine wp_seq (wp_seq ?_)
  have o3 := own_frameB o2 f3 (fun k hk e => own_neT (own_base o2 (Nat.zero_le _)) r1b (by decide) k hk e)
  have o3b := own_base o3 s1.size
  obtain ⟨nb, hnr⟩ := own_nrow o3 rfl
  have q0 := s3.keep o0_
  have q1 := s3.keep o1_
  have q2 := s3.keep o2_
  have q3 := s3.keep o3_
  have t0 : W3.cell? ⟨wr.heap.size, 0, none⟩ = some (.int .u32 (at_ : Int)) := (cell_of_row _ _ _ _ _ _ r3).trans rfl
  have t1 : W3.cell? ⟨wr.heap.size, 1, none⟩ = some (.slice xa ns.length xc) := (cell_of_row _ _ _ _ _ _ r3).trans rfl
  obtain ⟨D, m, st, ha, hm⟩ := hw.set
  have st3 : SetAt W3 mb m D := st.fr s3 (fun e => e)
  have hmb : m ≤ 70000 := by have := hw.cnt; omega
  obtain ⟨k1, k2⟩ := ob_agr ha (p := p) (q := q) (pages := pages) at_ ns
  rw [hok] at k1 k2
  have kW := fownBatch_calls (p := p) (q := q) (pages := pages) (pg := at_) (cp := xc) W3 hnr st3 (by omega) (by omega) hns hat
  rw [k1] at kW
  refine wp_region_list ?_
  unfold rRD13
  have r_17 : (execOp x_16.eval oQD9).run Try.prog (W3) = .ok (.value (.agg #[.int .i64 p, .int .i64 q, .int .u32 (pages : Int), .map (some mb)])) (W3) := by
    unfold oQD9
    have e10 := (show x_16.eval (.tmp 10) = .pointer (some ⟨ob, 0, none⟩) from ((g_16.at_ 10).trans I0.s10))
    clear g_16 hQ h12 h13
    generalize x_16.eval = ρ at *
    go_simp
  refine g_16.step 40 _ rfl (lb_ I0.size) (wn rfl) r_17 (fun x_17 g_17 => ?_)
  clear r_17 g_16
  have r_18 : (execOp x_17.eval oQD10).run Try.prog (W3) = .ok (.value (.agg #[.int .u32 (at_ : Int), .slice xa ns.length xc])) (W3) := by
    unfold oQD10
    have e14 : x_17.eval (.tmp 14) = .pointer (some ⟨wr.heap.size, 0, none⟩) := g_17.at_ 14
    clear g_17 hQ h12 h13
    generalize x_17.eval = ρ at *
    go_simp
  refine g_17.step 41 _ rfl (lb_ I0.size) (wn rfl) r_18 (fun x_18 g_18 => ?_)
  clear r_18 g_17
  have r_19 : (execOp x_18.eval oQD11).run Try.prog (W3) = .ok (.enter 13 #[.agg #[.int .i64 p, .int .i64 q, .int .u32 (pages : Int), .map (some mb)], .agg #[.int .u32 (at_ : Int), .slice xa ns.length xc]]) (W3) := by
    unfold oQD11
    have kf : ∀ f, x_18.eval (.func f) = .func (.func f) #[] #[] := fun _ => rfl
    have e40 : x_18.eval (.tmp 40) = .agg #[.int .i64 p, .int .i64 q, .int .u32 (pages : Int), .map (some mb)] := g_18.at_ 40
    have e41 : x_18.eval (.tmp 41) = .agg #[.int .u32 (at_ : Int), .slice xa ns.length xc] := g_18.at_ 41
    clear g_18 hQ h12 h13
    generalize x_18.eval = ρ at *
    go_simp
  refine g_18.call 42 rfl (lb_ I0.size) (wn rfl) r_19 (kW) (fun e W4 hR => ?_)
  obtain ⟨rfl, st4, f4⟩ := hR
  clear r_19
  refine ⟨_, rfl, fun x_19 g_19 => ?_⟩
  clear g_18
  have r_20 : (execOp x_19.eval oQD12).run Try.prog (W4) = .ok (.value (.bool false)) (W4) := by
    unfold oQD12
    have e42 : x_19.eval (.tmp 42) = .bool true := g_19.at_ 42
    clear g_19 hQ h12 h13
    generalize x_19.eval = ρ at *
    go_simp
  refine g_19.step 43 _ rfl (lb_ I0.size) (wn rfl) r_20 (fun x_20 g_20 => ?_)
  clear r_20 g_19
  refine wpList_nil ?_
  change Code.wp _ _ _ _ _
  refine wp_cond_false (show x_20.eval (.tmp 43) = .bool false from (g_20.at_ 43)) (wp_skip ?_)
  change Code.wp _ _ _ _ _
  have hbm : ¬ wr.heap.size = mb := fun e => by have := st.lt; omega
  have t0x := (f4.cell (p := ⟨wr.heap.size, 0, none⟩) (lt_of_heap r3) hbm).trans t0
  have t1x := (f4.cell (p := ⟨wr.heap.size, 1, none⟩) (lt_of_heap r3) hbm).trans t1
  have rN := own_frameB (own_frameB hw.row s3 (fun _ _ e => e)) f4 (own_neSetQ (own_frameB hw.row s3 (fun _ _ e => e)) st3)
  rw [hnl] at rN
  refine wp_region_list ?_
  unfold rRD15
  refine g_20.move 44 (.slice ao n cc) _ (Or.inl rfl) rfl (lb_ I0.size) (wn rfl) ((g_20.at_ 12).trans h12) (fun x_21 g_21 => ?_)
  clear g_20
  have r_22 : (execOp x_21.eval oQD13).run Try.prog (W4) = .ok (.value (.agg #[.int .u32 (at_ : Int), .slice xa ns.length xc])) (W4) := by
    unfold oQD13
    have e14 : x_21.eval (.tmp 14) = .pointer (some ⟨wr.heap.size, 0, none⟩) := g_21.at_ 14
    clear g_21 hQ h12 h13
    generalize x_21.eval = ρ at *
    go_simp
  refine g_21.step 45 _ rfl (lb_ I0.size) (wn rfl) r_22 (fun x_22 g_22 => ?_)
  clear r_22 g_21
  have r_23 : (execOp x_22.eval oQD14).run Try.prog (W4) = .ok (.value (.slice (some ⟨W4.heap.size, 0, none⟩) 1 1)) (W4.alloc (.cells #[.int .u32 (at_ : Int), .slice xa ns.length xc] 53)) := by
    unfold oQD14
    have e45 : x_22.eval (.tmp 45) = .agg #[.int .u32 (at_ : Int), .slice xa ns.length xc] := g_22.at_ 45
    clear g_22 hQ h12 h13
    generalize x_22.eval = ρ at *
    go_simp
  refine g_22.stepW 46 (.slice (some ⟨W4.heap.size, 0, none⟩) 1 1) rfl (lb_ I0.size) (wn rfl) r_23 (fun x_23 g_23 => ?_)
  clear r_23
  obtain ⟨W5, hW5⟩ : ∃ W5, W5 = W4.alloc (.cells #[.int .u32 (at_ : Int), .slice xa ns.length xc] 53) := ⟨_, rfl⟩
  rw [← hW5]
  have s5 : Same W4 W5 := by rw [hW5]; exact (Fr.refl _ W4).alloc _
  have hh5 : W5.heap[W4.heap.size]? = some (.cells [.int .u32 (at_ : Int), .slice xa ns.length xc].toArray 53 (0, 0)) := by rw [hW5]; exact heap_alloc_new W4 _
  obtain ⟨a6, c6, W6, hr6, o6, g6⟩ := run_mB W5 30 (own_frameB rN s5 (fun _ _ e => e)) 1 (row_news hh5) rfl rfl (by omega) (Nat.le_trans hw.base.size (Nat.le_trans s3.size (Nat.le_trans f4.size s5.size)))
  clear g_22
  have r_24 : (execOp x_23.eval oQD15).run Try.prog (W5) = .ok (.value (.slice a6 (n + 1) c6)) (W6) := by
    unfold oQD15
    refine exec_append rfl ?_
    rw [(show x_23.eval (.tmp 44) = .slice ao n cc from (g_23.at_ 44)), (show x_23.eval (.tmp 46) = .slice (some ⟨W4.heap.size, 0, none⟩) 1 1 from (g_23.at_ 46))]
    exact hr6
  refine g_23.stepW 47 (.slice a6 (n + 1) c6) rfl (lb_ I0.size) (wn rfl) r_24 (fun x_24 g_24 => ?_)
  clear r_24 g_23
  refine g_24.move 12 (.slice a6 (n + 1) c6) _ (Or.inr rfl) rfl (lb_ I0.size) (wn rfl) (g_24.at_ 47) (fun x_25 g_25 => ?_)
  clear g_24
  refine wpList_nil ?_
  rw [← hnl] at g6 o6
  obtain ⟨N2, hw2, hn2⟩ := hw.next (p := p) (q := q) hwV s3 o3b ⟨D, m, st3⟩ st4 (by omega) f4 (k2 rfl) hok s5 g6 o6
  exact hQ x_25 W6 a6 c6 N2 (I0.keep g_25 rfl rfl rfl) (by rw [hn2, hnl]; exact (show x_25.eval (.tmp 12) = .slice a6 (n + 1) c6 from (g_25.at_ 12))) (show x_25.eval (.tmp 13) = .int .u32 (nx : Int) from (g_25.at_ 13)) hw2
set_option maxRecDepth 100000 in
theorem rd_x {v1 : Value} {fb ob n cc : Nat} {ao : Option Addr} {Q : Exit → Act → World → Prop} (a0 : Act) (wr : World) (I0 : IRD v1 fb ob a0) (h12 : a0.eval (.tmp 12) = .slice ao n cc) (h13 : a0.eval (.tmp 13) = .int .u32 0)
    (hQ : ∀ a, IRD v1 fb ob a → a.eval (.tmp 12) = .slice ao n cc → Q (.exit 0) a wr) : cRD1.wp Try.prog Q a0 wr := by
  have g_0 := Fe.refl a0
  unfold cRD1
  refine wp_seq (wp_seq ?_)
  refine wp_region_list ?_
  unfold rRD8
  refine g_0.move 27 (.int .u32 0) _ (Or.inl rfl) rfl (lb_ I0.size) (wn rfl) ((g_0.at_ 13).trans h13) (fun x_1 g_1 => ?_)
  clear g_0
  have r_2 : (execOp x_1.eval oQD0).run Try.prog (wr) = .ok (.value (.bool false)) (wr) := by
    unfold oQD0
    have kc : ∀ v, x_1.eval (.const v) = v := fun _ => rfl
    have e27 : x_1.eval (.tmp 27) = .int .u32 0 := g_1.at_ 27
    clear g_1 hQ h12 h13
    generalize x_1.eval = ρ at *
    go_simp
  refine g_1.step 28 _ rfl (lb_ I0.size) (wn rfl) r_2 (fun x_2 g_2 => ?_)
  clear r_2 g_1
  refine wpList_nil ?_
  change Code.wp _ _ _ _ _
  refine wp_cond_false (show x_2.eval (.tmp 28) = .bool false from (g_2.at_ 28)) (wp_exit ?_)
  exact hQ x_2 (I0.keep g_2 rfl rfl rfl) (show x_2.eval (.tmp 12) = .slice ao n cc from ((g_2.at_ 12).trans h12))
end Go.Proofs.Ytajbifblbmlffaa
