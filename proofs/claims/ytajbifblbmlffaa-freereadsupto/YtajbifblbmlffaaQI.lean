/- free: books and two numbers that come in, opened. -/
import Derived.Test.YtajbifblbmlffaaYI
import Derived.Test.YtajbifblbmlffaaQH
namespace Go.Proofs.Ytajbifblbmlffaa
open Go.ChangeShapes Go.WideShapes Go.ChangeAt Go.RowKit Go.Joins

def oQI0 : Oper := { dst := some 3, op := .box 23 (.tmp 0), type := 0, pos := "law.go:145", after := #[], guard := none }
def oQI1 : Oper := { dst := some 4, op := .box 27 (.tmp 1), type := 0, pos := "law.go:145", after := #[], guard := none }
def oQI2 : Oper := { dst := some 5, op := .box 29 (.tmp 2), type := 0, pos := "law.go:145", after := #[], guard := none }
def oQI3 : Oper := { dst := some 19, op := .fieldAddr 27 (.tmp 4) 1, type := 0, pos := "law.go:146", after := #[], guard := none }
def oQI4 : Oper := { dst := some 20, op := .load 25 (.tmp 19), type := 25, pos := "law.go:146", after := #[{ on := 0, ground := .data }], guard := none }
def oQI5 : Oper := { dst := some 21, op := .binOp .eql 25 (.tmp 20) (.const (.int .i64 0)) 25, type := 4, pos := "law.go:146", after := #[{ on := 1, ground := .data }], guard := none }
theorem bulk_sumG {H : Type} {α : Type} (wt : α → Nat) (l : List Nat) (D : Nat → DataW H) (T : Nat → α) (h : ∀ i ∈ l, wt (T i) ≤ Rows.uptoBulk (D i)) : ((l.map T).map wt).sum ≤ Rows.uptoBulkAll (l.map D) := by
  induction l with
  | nil => simp
  | cons x l ih =>
    have h1 := h x (by simp)
    have h2 := ih (fun i hi => h i (by simp [hi]))
    rw [List.map_cons, List.map_cons, List.sum_cons, List.map_cons, Rows.uptoBulkAll]; omega
theorem add_pl (b o i : Nat) : (⟨b, o, none⟩ : Addr).add i = ⟨b, o + i, none⟩ := by
  unfold Addr.add; split
  · next h => subst h; rfl
  · rfl
theorem open_rows {H : Type} {enc : TypeId × Value → H} {W : World} {d : DataW H × List MemPlace} {fuel : Nat} {cs : List Value} {t e : TypeId} {α : Type} [Inhabited α] (n : Nat) (hn : 0 < n) (cells : α → List Value) (OK : α → Prop) (wt : α → Nat)
    (hu : Try.prog.underlying t = some (.slice e)) (hc : Try.prog.cellsOf e = n)
    (hE : ∀ (m : Nat) (c : List Value) (x : DataW H × List MemPlace), c.length = n → DataW.trod enc Try.prog W 0 (fun _ => true) true m e c = some x → ∃ a : α, c = cells a ∧ OK a ∧ wt a ≤ Rows.uptoBulk x.1)
    (hf : DataW.trod enc Try.prog W 0 (fun _ => true) true fuel t cs = some d) :
    ∃ (pa : Option Addr) (pb po cp : Nat) (xs : List α), cs = [.slice pa xs.length cp] ∧ xs.length ≤ cp ∧ cp ≤ maxLen ∧ (xs ≠ [] → pa = some ⟨pb, po, none⟩ ∧ pb < W.heap.size) ∧ (∀ j x, xs[j]? = some x → W.rangeAt pb (po + j * n) (cells x)) ∧ (∀ x ∈ xs, OK x) ∧ (pa = none → cp = 0) ∧ (xs.map wt).sum ≤ Rows.uptoBulk d.1 := by
  rcases Deep.open_slice hu hf with ⟨rfl, rfl⟩ | ⟨a, len, cap, mm, nn, D, Pl, rfl, _, hl, hm, hmm, rfl, hel⟩
  · exact ⟨none, 0, 0, 0, [], rfl, by simp, by simp, fun h => absurd rfl h, fun j x hx => by simp at hx, by simp, fun _ => rfl, by simp⟩
  · have hmc : mm = cap := by simpa using hmm
    subst hmc
    rw [hc] at hel
    obtain ⟨T, hT⟩ := Deep.choose_lt (α := α) (n := len) (p := fun i x => W.cells? 0 (a.add (i * n)) n = some (cells x) ∧ OK x ∧ wt x ≤ Rows.uptoBulk (D i)) (fun i hi => by
      obtain ⟨c, h1, h2⟩ := hel i (by omega)
      obtain ⟨_, hcl, _⟩ := World.cells?_some h1
      obtain ⟨x, rfl, h3, h4⟩ := hE nn c _ hcl h2
      exact ⟨x, h1, h3, h4⟩)
    have hsum := bulk_sumG wt (List.range len) D T (fun i hi => (hT i (List.mem_range.1 hi)).2.2)
    have hlen : ((List.range len).map T).length = len := by simp
    have hs : 0 < len → ∃ b off, a = ⟨b, off, none⟩ ∧ b < W.heap.size := fun h0 => by
      obtain ⟨_, hcl, hce⟩ := World.cells?_some (hT 0 h0).1
      have hc0 := hce 0 hn
      rw [List.getElem?_eq_getElem (by omega)] at hc0
      obtain ⟨b, off, spot⟩ := a
      have hspot : spot = none := by simpa [Addr.add] using World.cell?_spot hc0
      subst hspot
      refine ⟨b, off, rfl, ?_⟩
      have := World.block_lt_of_cell? _ _ hc0
      simpa [Addr.add] using this
    refine ⟨some a, a.block, a.off, mm, (List.range len).map T, by rw [hlen], by omega, hm, ?_, ?_, ?_, fun e => by (cases e), ?_⟩
    · intro hne
      have h0 : 0 < len := by
        rcases Nat.eq_zero_or_pos len with h | h
        · subst h; exact absurd rfl hne
        · exact h
      obtain ⟨b, off, rfl, hb⟩ := hs h0
      exact ⟨rfl, hb⟩
    · intro j x hj
      have hj1 : j < len := by
        have := (List.getElem?_eq_some_iff.1 hj).1
        omega
      have hjt : x = T j := by
        rw [List.getElem?_map, List.getElem?_range hj1] at hj
        simpa using hj.symm
      subst hjt
      obtain ⟨_, hcl, hce⟩ := World.cells?_some (hT j hj1).1
      intro i v hv
      have hi : i < n := by
        have := (List.getElem?_eq_some_iff.1 hv).1
        omega
      have h1 := hce i hi
      rw [hv] at h1
      obtain ⟨b, off, rfl, hb⟩ := hs (by omega)
      rw [add_pl, add_pl] at h1
      exact h1
    · intro x hx
      obtain ⟨k, hk, rfl⟩ := List.mem_map.1 hx
      exact (hT k (List.mem_range.1 hk)).2.1
    · rw [Rows.uptoBulk]; omega
theorem open_text_in {H : Type} {enc : TypeId × Value → H} {W : World} {d : DataW H × List MemPlace} {fuel : Nat} {cs : List Value}
    (hf : DataW.trod enc Try.prog W 0 (fun _ => true) true fuel 9 cs = some d) : ∃ x : ByteArray, cs = [.string x] ∧ True ∧ x.size + 1 ≤ Rows.uptoBulk d.1 := by
  obtain ⟨s0, e0, g0, _⟩ := DataW.trod_string Try.underlying9 hf
  refine ⟨s0, e0, trivial, ?_⟩
  rw [g0]; simp only [Rows.uptoBulk, bytes_length]; omega
theorem sum_len {α : Type} (wt : α → Nat) (l : List α) (h : ∀ x ∈ l, 1 ≤ wt x) : l.length ≤ (l.map wt).sum := by
  induction l with
  | nil => simp
  | cons x l ih =>
    have h1 := h x (by simp)
    have h2 := ih (fun y hy => h y (by simp [hy]))
    rw [List.map_cons, List.sum_cons, List.length_cons]; omega
theorem mem_sumQ {α : Type} (f : α → Nat) : ∀ (l : List α) (x : α), x ∈ l → f x ≤ (l.map f).sum
  | y :: l, x, h => by
    rw [List.map_cons, List.sum_cons]
    rcases List.mem_cons.1 h with rfl | h
    · omega
    · have := mem_sumQ f l x h; omega
theorem okWide_arrQ {P : Program} {w : World} {r : Reach} {base : Nat} {t e : TypeId} {n : Nat} {v : Value} (ht : P.underlying t = some (.array n e)) (h : Value.okWide P w r base t v) : ∃ cs : Array Value, v = .agg cs ∧ cs.size = P.cellsOf t := by
  simp only [Value.okWide, ht] at h
  obtain ⟨cs, h1, h2, _⟩ := h
  exact ⟨cs, h1, h2⟩
instance : Inhabited Pgd := ⟨⟨0, 0, 0, ⟨#[]⟩⟩⟩
theorem u8_nat {u : Int} (h : (Lit.int .u8 u).wf = true) : ∃ k : Nat, u = (k : Int) ∧ k < 256 := by
  simp [Lit.wf, IntKind.min, IntKind.max, IntKind.bits, IntKind.signed] at h
  exact ⟨u.toNat, by omega, by omega⟩
theorem u64_nat {u : Int} (h : (Lit.int .u64 u).wf = true) : ∃ k : Nat, u = (k : Int) := by
  simp [Lit.wf, IntKind.min, IntKind.max, IntKind.bits, IntKind.signed] at h
  exact ⟨u.toNat, by omega⟩
set_option maxRecDepth 100000 in
theorem open_pgd_in {H : Type} {enc : TypeId × Value → H} {W : World} {d : DataW H × List MemPlace} {fuel : Nat} {cs : List Value} (hz : cs.length = 4)
    (hf : DataW.trod enc Try.prog W 0 (fun _ => true) true fuel 76 cs = some d) : ∃ x : Pgd, cs = pgdC x ∧ x.kind < 256 ∧ x.body.size + 1 ≤ Rows.uptoBulk d.1 := by
  obtain ⟨x0, x1, x2, x3, rfl⟩ : ∃ x0 x1 x2 x3, cs = [x0, x1, x2, x3] := by
    match cs, hz with
    | [x0, x1, x2, x3], _ => exact ⟨x0, x1, x2, x3, rfl⟩
  obtain ⟨y0, y1, y2, y3, n, hd, _, f0, f1, f2, f3⟩ := trod_struct4 Try.underlying76 hf
  have c0 : Try.prog.cellsOf 73 = 1 := by kernel_rfl
  have c1 : Try.prog.cellsOf 28 = 1 := by kernel_rfl
  have c2 : Try.prog.cellsOf 74 = 1 := by kernel_rfl
  have c3 : Try.prog.cellsOf 9 = 1 := by kernel_rfl
  simp only [c0, c1, c2, c3, List.drop_succ_cons, List.drop_zero, List.take_succ_cons, List.take_zero] at f0 f1 f2 f3
  obtain ⟨k0, e0, _, w0⟩ := DataW.trod_int Try.underlying73 f0
  obtain ⟨k1, e1, _, w1⟩ := DataW.trod_int Try.underlying28 f1
  obtain ⟨k2, e2, _, w2⟩ := DataW.trod_int Try.underlying74 f2
  obtain ⟨s, e3, _, l3⟩ := open_text_in f3
  obtain ⟨k0, rfl, h0⟩ := u8_nat w0
  obtain ⟨k1, rfl, _⟩ := u32_nat w1
  obtain ⟨k2, rfl⟩ := u64_nat w2
  simp only [List.cons.injEq, and_true] at e0 e1 e2 e3
  subst e0 e1 e2 e3
  have hd1 : d.1 = (DataW.agg [y0.1, y1.1, y2.1, y3.1] : DataW H) := congrArg Prod.fst hd
  rw [hd1]
  simp only [Rows.uptoBulk, Rows.uptoBulkAll]
  exact ⟨⟨k0, k1, k2, s⟩, rfl, h0, by show s.size + 1 ≤ _; omega⟩
set_option maxRecDepth 100000 in
theorem open_book {H : Type} {enc : TypeId × Value → H} {W : World} {v : Value} {d : DataW H} {pl : List MemPlace} {base : Nat}
    (hv : Value.okWide Try.prog W .any base 27 v) (h : DataW.Trod enc Try.prog W 0 (fun _ => true) true 27 v d pl) :
    ∃ (P : List Pgd) (pa : Option Addr) (pb po cp : Nat) (er : Int), v = .agg #[.slice pa P.length cp, .int .i64 er] ∧ PdRow W pa pb po P ∧ (∀ x ∈ P, x.kind < 256) ∧ (P.map fun x => x.body.size + 1).sum ≤ Rows.uptoBulk d := by
  obtain ⟨cs, rfl, hz⟩ := okWide_struct Try.underlying27 hv
  rw [show Try.prog.cellsOf 27 = 2 from by kernel_rfl] at hz
  obtain ⟨fuel, hf⟩ := h
  obtain ⟨x0, x1, rfl⟩ : ∃ x0 x1, cs = #[x0, x1] := by
    obtain ⟨l⟩ := cs
    match l, hz with
    | [x0, x1], _ => exact ⟨x0, x1, rfl⟩
  obtain ⟨y0, y1, n, hd, _, f0, f1⟩ := trod_struct2 Try.underlying27 hf
  have c0 : Try.prog.cellsOf 24 = 1 := by kernel_rfl
  have c1 : Try.prog.cellsOf 25 = 1 := by kernel_rfl
  simp only [Value.cells, c0, c1, List.drop_succ_cons, List.drop_zero, List.take_succ_cons, List.take_zero] at f0 f1
  obtain ⟨pa, pb, po, cp, P, e0, _, _, a0, b0, k0, _, s0⟩ := open_rows (α := Pgd) 4 (by decide) pgdC (fun x => x.kind < 256) (fun x => x.body.size + 1) Try.underlying24 (by kernel_rfl) (fun m c x hc h => open_pgd_in hc h) f0
  obtain ⟨er, e1, _, _⟩ := DataW.trod_int Try.underlying25 f1
  simp only [List.cons.injEq, and_true] at e0 e1
  subst e0 e1
  have hd1 : d = (DataW.agg [y0.1, y1.1] : DataW H) := congrArg Prod.fst hd
  rw [hd1]
  simp only [Rows.uptoBulk, Rows.uptoBulkAll]
  exact ⟨P, pa, pb, po, cp, er, rfl, ⟨a0, fun k x hx => ⟨b0 k x hx 0 _ rfl, b0 k x hx 1 _ rfl, b0 k x hx 2 _ rfl, b0 k x hx 3 _ rfl⟩⟩, k0, by omega⟩
set_option maxRecDepth 100000 in
theorem open_two {H : Type} {enc : TypeId × Value → H} {W : World} {v : Value} {d : DataW H} {pl : List MemPlace} {base : Nat}
    (hv : Value.okWide Try.prog W .any base 29 v) (h : DataW.Trod enc Try.prog W 0 (fun _ => true) true 29 v d pl) :
    ∃ (a b : Nat), v = .agg #[.int .u32 (a : Int), .int .u32 (b : Int)] ∧ a < 4294967296 ∧ b < 4294967296 := by
  obtain ⟨cs, rfl, hz⟩ := okWide_arrQ Try.underlying29 hv
  rw [show Try.prog.cellsOf 29 = 2 from by kernel_rfl] at hz
  obtain ⟨fuel, hf⟩ := h
  obtain ⟨x0, x1, rfl⟩ : ∃ x0 x1, cs = #[x0, x1] := by
    obtain ⟨l⟩ := cs
    match l, hz with
    | [x0, x1], _ => exact ⟨x0, x1, rfl⟩
  obtain ⟨xs, m, _, _, hl, hn, hi⟩ := DataW.trod_array Try.underlying29 hf
  have c1 : Try.prog.cellsOf 28 = 1 := by kernel_rfl
  rw [c1] at hi
  obtain ⟨q0, q1, rfl⟩ := pair_list xs hn
  have h0 := hi 0 (by decide)
  have h1 := hi 1 (by decide)
  obtain ⟨k0, e0, _, w0⟩ := DataW.trod_int Try.underlying28 h0
  obtain ⟨k1, e1, _, w1⟩ := DataW.trod_int Try.underlying28 h1
  obtain ⟨k0, rfl, l0⟩ := u32_nat w0
  obtain ⟨k1, rfl, l1⟩ := u32_nat w1
  have g0 : x0 = .int .u32 (k0 : Int) := (List.cons.inj (show [x0] = [Value.int .u32 (k0 : Int)] from e0)).1
  have g1 : x1 = .int .u32 (k1 : Int) := (List.cons.inj (show [x1] = [Value.int .u32 (k1 : Int)] from e1)).1
  rw [g0, g1]
  exact ⟨k0, k1, rfl, l0, l1⟩
set_option maxRecDepth 100000 in
theorem fr_hz {p q : Int} {first pages n cp : Nat} {pa : Option Addr} (w : World)
    (hR : ∀ (a : Act) (V : World) (e2 : Int), ¬ e2 = 0 → a.tmps.size = 130 → a.defers = [] → a.eval (.tmp 3) = .pointer (some ⟨w.heap.size, 0, none⟩) → a.eval (.tmp 4) = .pointer (some ⟨w.heap.size + 1, 0, none⟩) → a.eval (.tmp 5) = .pointer (some ⟨w.heap.size + 1 + 1, 0, none⟩) → V.heap[w.heap.size]? = some (.cells #[.int .i64 p, .int .i64 q] 23 (0, 0)) → V.heap[w.heap.size + 1]? = some (.cells #[.slice pa n cp, .int .i64 e2] 27 (0, 0)) → V.heap[w.heap.size + 1 + 1]? = some (.cells #[.int .u32 (first : Int), .int .u32 (pages : Int)] 29 (0, 0)) → Same w V → cFRB.wp Try.prog (bodyPost Try.prog Try.f3 fun e w' => e = .returned (.bool true) ∧ Same w w') a V) :
    Calls Try.prog 3 #[.agg #[.int .i64 p, .int .i64 q], .agg #[.slice pa n cp, .int .i64 0], .agg #[.int .u32 (first : Int), .int .u32 (pages : Int)]] w fun e w' => e = .returned (.bool true) ∧ Same w w' := by
  refine calls_abs (c := cFR) Try.func3 (by kernel_rfl) 130 rfl (by simp) (fun a0 hsz hd ha => ?_)
  have g_0 := Fe.refl a0
  unfold cFR
  refine wp_seq ?_
  refine wp_region_list ?_
  unfold rFR0
  have r_1 : (execOp a0.eval oQI0).run Try.prog (w) = .ok (.value (.pointer (some ⟨w.heap.size, 0, none⟩))) (w.alloc (.cells #[.int .i64 p, .int .i64 q] 23)) := by
    unfold oQI0
    have e0 := (show a0.eval (.tmp 0) = .agg #[.int .i64 p, .int .i64 q] from ((g_0.at_ 0).trans (ha 0 _ rfl)))
    clear g_0 ha hR
    generalize a0.eval = ρ at *
    go_simp
  refine g_0.stepW 3 (.pointer (some ⟨w.heap.size, 0, none⟩)) rfl (lb_ hsz) (wn rfl) r_1 (fun x_1 g_1 => ?_)
  clear r_1 g_0
  have r_2 : (execOp x_1.eval oQI1).run Try.prog (w.alloc (.cells #[.int .i64 p, .int .i64 q] 23)) = .ok (.value (.pointer (some ⟨w.heap.size + 1, 0, none⟩))) ((w.alloc (.cells #[.int .i64 p, .int .i64 q] 23)).alloc (.cells #[.slice pa n cp, .int .i64 0] 27)) := by
    unfold oQI1
    have e1 := (show x_1.eval (.tmp 1) = .agg #[.slice pa n cp, .int .i64 0] from ((g_1.at_ 1).trans (ha 1 _ rfl)))
    clear g_1 ha hR
    generalize x_1.eval = ρ at *
    go_simp
  refine g_1.stepW 4 (.pointer (some ⟨w.heap.size + 1, 0, none⟩)) rfl (lb_ hsz) (wn rfl) r_2 (fun x_2 g_2 => ?_)
  clear r_2 g_1
  have r_3 : (execOp x_2.eval oQI2).run Try.prog ((w.alloc (.cells #[.int .i64 p, .int .i64 q] 23)).alloc (.cells #[.slice pa n cp, .int .i64 0] 27)) = .ok (.value (.pointer (some ⟨w.heap.size + 1 + 1, 0, none⟩))) (((w.alloc (.cells #[.int .i64 p, .int .i64 q] 23)).alloc (.cells #[.slice pa n cp, .int .i64 0] 27)).alloc (.cells #[.int .u32 (first : Int), .int .u32 (pages : Int)] 29)) := by
    unfold oQI2
    have e2 := (show x_2.eval (.tmp 2) = .agg #[.int .u32 (first : Int), .int .u32 (pages : Int)] from ((g_2.at_ 2).trans (ha 2 _ rfl)))
    clear g_2 ha hR
    generalize x_2.eval = ρ at *
    go_simp
  refine g_2.stepW 5 (.pointer (some ⟨w.heap.size + 1 + 1, 0, none⟩)) rfl (lb_ hsz) (wn rfl) r_3 (fun x_3 g_3 => ?_)
  clear r_3 g_2
  refine g_3.move 6 (.bool false) _ (Or.inr rfl) rfl (lb_ hsz) (wn rfl) rfl (fun x_4 g_4 => ?_)
  clear g_3
  refine wpList_nil ?_
  obtain ⟨V, hV⟩ : ∃ V, V = ((w.alloc (.cells #[.int .i64 p, .int .i64 q] 23)).alloc (.cells #[.slice pa n cp, .int .i64 0] 27)).alloc (.cells #[.int .u32 (first : Int), .int .u32 (pages : Int)] 29) := ⟨_, rfl⟩
  rw [← hV]
  have sV : Same w V := by rw [hV]; exact (((Fr.refl _ w).alloc _).alloc _).alloc _
  have r0 : V.heap[w.heap.size]? = some (.cells #[.int .i64 p, .int .i64 q] 23 (0, 0)) := by rw [hV]; exact ((((Fr.refl (fun _ => False) (w.alloc (.cells #[.int .i64 p, .int .i64 q] 23))).alloc _).alloc _).block _ (by simp) (fun f => f)).trans (heap_alloc_new w _)
  have r1 : V.heap[w.heap.size + 1]? = some (.cells #[.slice pa n cp, .int .i64 0] 27 (0, 0)) := by
    rw [hV]
    have e := heap_alloc_new (w.alloc (.cells #[.int .i64 p, .int .i64 q] 23)) (.cells #[.slice pa n cp, .int .i64 0] 27)
    rw [show (w.alloc (.cells #[.int .i64 p, .int .i64 q] 23)).heap.size = w.heap.size + 1 from by simp] at e
    exact (((Fr.refl (fun _ => False) ((w.alloc (.cells #[.int .i64 p, .int .i64 q] 23)).alloc (.cells #[.slice pa n cp, .int .i64 0] 27))).alloc _).block _ (by simp) (fun f => f)).trans e
  have r2 : V.heap[w.heap.size + 1 + 1]? = some (.cells #[.int .u32 (first : Int), .int .u32 (pages : Int)] 29 (0, 0)) := by
    rw [hV]
    have e := heap_alloc_new ((w.alloc (.cells #[.int .i64 p, .int .i64 q] 23)).alloc (.cells #[.slice pa n cp, .int .i64 0] 27)) (.cells #[.int .u32 (first : Int), .int .u32 (pages : Int)] 29)
    rw [show ((w.alloc (.cells #[.int .i64 p, .int .i64 q] 23)).alloc (.cells #[.slice pa n cp, .int .i64 0] 27)).heap.size = w.heap.size + 1 + 1 from by simp] at e
    exact e
  have b0 : V.cell? ⟨w.heap.size + 1, 0, none⟩ = some (.slice pa n cp) := (cell_of_row _ _ _ _ _ _ r1).trans rfl
  have b1 : V.cell? ⟨w.heap.size + 1, 1, none⟩ = some (.int .i64 0) := (cell_of_row _ _ _ _ _ _ r1).trans rfl
  clear hV
  change Code.wp _ _ _ _ _
  refine wp_seq (wp_seq ?_)
  refine wp_region_list ?_
  unfold rFR1
  have r_5 : (execOp x_4.eval oQI3).run Try.prog (V) = .ok (.value (.pointer (some ⟨w.heap.size + 1, 1, none⟩))) (V) := by
    unfold oQI3
    have e4 : x_4.eval (.tmp 4) = .pointer (some ⟨w.heap.size + 1, 0, none⟩) := g_4.at_ 4
    clear g_4 ha hR
    generalize x_4.eval = ρ at *
    go_simp
  refine g_4.step 19 _ rfl (lb_ hsz) (wn rfl) r_5 (fun x_5 g_5 => ?_)
  clear r_5 g_4
  have r_6 : (execOp x_5.eval oQI4).run Try.prog (V) = .ok (.value (.int .i64 0)) (V) := by
    unfold oQI4
    have e19 : x_5.eval (.tmp 19) = .pointer (some ⟨w.heap.size + 1, 1, none⟩) := g_5.at_ 19
    clear g_5 ha hR
    generalize x_5.eval = ρ at *
    go_simp
  refine g_5.step 20 _ rfl (lb_ hsz) (wn rfl) r_6 (fun x_6 g_6 => ?_)
  clear r_6 g_5
  have r_7 : (execOp x_6.eval oQI5).run Try.prog (V) = .ok (.value (.bool true)) (V) := by
    unfold oQI5
    have kc : ∀ v, x_6.eval (.const v) = v := fun _ => rfl
    have e20 : x_6.eval (.tmp 20) = .int .i64 0 := g_6.at_ 20
    clear g_6 ha hR
    generalize x_6.eval = ρ at *
    go_simp
  refine g_6.step 21 _ rfl (lb_ hsz) (wn rfl) r_7 (fun x_7 g_7 => ?_)
  clear r_7 g_6
  refine wpList_nil ?_
  change Code.wp _ _ _ _ _
  refine wp_cond_true (show x_7.eval (.tmp 21) = .bool true from (g_7.at_ 21)) ?_
  have hfz := frozen_of_row V (w.heap.size + 1) 1 _ _ r1
  have zV := lt_of_heap r1
  refine wp_region_list ?_
  unfold rFR2
  have r_8 : (execOp x_7.eval { dst := some 22, op := Op.fieldAddr 27 (Operand.tmp 4) 1, type := 0, pos := "law.go:147", after := #[], guard := none }).run Try.prog (V) = .ok (.value (.pointer (some ⟨w.heap.size + 1, 1, none⟩))) (V) := by
    have e4 : x_7.eval (.tmp 4) = .pointer (some ⟨w.heap.size + 1, 0, none⟩) := g_7.at_ 4
    clear g_7 ha hR
    generalize x_7.eval = ρ at *
    go_simp
  refine g_7.step 22 _ rfl (lb_ hsz) (wn rfl) r_8 (fun x_8 g_8 => ?_)
  clear r_8 g_7
  have r_9 : (execOp x_8.eval { dst := none, op := Op.store 25 (Operand.tmp 22) (Operand.const (Value.int IntKind.i64 7)), type := 0, pos := "law.go:147", after := #[{ on := 0, ground := Ground.data }], guard := none }).run Try.prog (V) = .ok .skip (V.setCell ⟨w.heap.size + 1, 1, none⟩ (.int .i64 7)) := by
    have kc : ∀ v, x_8.eval (.const v) = v := fun _ => rfl
    have e22 : x_8.eval (.tmp 22) = .pointer (some ⟨w.heap.size + 1, 1, none⟩) := g_8.at_ 22
    clear g_8 ha hR
    generalize x_8.eval = ρ at *
    go_simp
  refine g_8.store rfl (wn rfl) r_9 (fun x_9 g_9 => ?_)
  clear r_9 g_8
  refine wpList_nil ?_
  change Code.wp _ _ _ _ _
  have r1x := heap_setCell_same V (w.heap.size + 1) 1 _ _ (.int .i64 7) r1
  have fx : Fr (fun k => k = w.heap.size + 1) V (V.setCell ⟨w.heap.size + 1, 1, none⟩ (.int .i64 7)) := Fr.setCell (S := fun k => k = w.heap.size + 1) (Fr.refl _ V) (p := ⟨w.heap.size + 1, 1, none⟩) (fun _ => rfl) _
  exact hR x_9 _ 7 (by decide) (g_9.size.trans hsz) (g_9.defers.trans hd) (show x_9.eval (.tmp 3) = .pointer (some ⟨w.heap.size, 0, none⟩) from (g_9.at_ 3)) (show x_9.eval (.tmp 4) = .pointer (some ⟨w.heap.size + 1, 0, none⟩) from (g_9.at_ 4)) (show x_9.eval (.tmp 5) = .pointer (some ⟨w.heap.size + 1 + 1, 0, none⟩) from (g_9.at_ 5)) ((fx.block _ (lt_of_heap r0) (by omega)).trans r0) r1x ((fx.block _ (lt_of_heap r2) (by omega)).trans r2) (Fr.trans sV fx (fun k hk e => by omega))
set_option maxRecDepth 100000 in
theorem fr_hn {p q er : Int} {first pages n cp : Nat} {pa : Option Addr} (w : World) (he : ¬ er = 0)
    (hR : ∀ (a : Act) (V : World) (e2 : Int), ¬ e2 = 0 → a.tmps.size = 130 → a.defers = [] → a.eval (.tmp 3) = .pointer (some ⟨w.heap.size, 0, none⟩) → a.eval (.tmp 4) = .pointer (some ⟨w.heap.size + 1, 0, none⟩) → a.eval (.tmp 5) = .pointer (some ⟨w.heap.size + 1 + 1, 0, none⟩) → V.heap[w.heap.size]? = some (.cells #[.int .i64 p, .int .i64 q] 23 (0, 0)) → V.heap[w.heap.size + 1]? = some (.cells #[.slice pa n cp, .int .i64 e2] 27 (0, 0)) → V.heap[w.heap.size + 1 + 1]? = some (.cells #[.int .u32 (first : Int), .int .u32 (pages : Int)] 29 (0, 0)) → Same w V → cFRB.wp Try.prog (bodyPost Try.prog Try.f3 fun e w' => e = .returned (.bool true) ∧ Same w w') a V) :
    Calls Try.prog 3 #[.agg #[.int .i64 p, .int .i64 q], .agg #[.slice pa n cp, .int .i64 er], .agg #[.int .u32 (first : Int), .int .u32 (pages : Int)]] w fun e w' => e = .returned (.bool true) ∧ Same w w' := by
  refine calls_abs (c := cFR) Try.func3 (by kernel_rfl) 130 rfl (by simp) (fun a0 hsz hd ha => ?_)
  have hed : (er == 0) = false := by simpa using he
  have g_0 := Fe.refl a0
  unfold cFR
  refine wp_seq ?_
  refine wp_region_list ?_
  unfold rFR0
  have r_1 : (execOp a0.eval oQI0).run Try.prog (w) = .ok (.value (.pointer (some ⟨w.heap.size, 0, none⟩))) (w.alloc (.cells #[.int .i64 p, .int .i64 q] 23)) := by
    unfold oQI0
    have e0 := (show a0.eval (.tmp 0) = .agg #[.int .i64 p, .int .i64 q] from ((g_0.at_ 0).trans (ha 0 _ rfl)))
    clear g_0 ha hR
    generalize a0.eval = ρ at *
    go_simp
  refine g_0.stepW 3 (.pointer (some ⟨w.heap.size, 0, none⟩)) rfl (lb_ hsz) (wn rfl) r_1 (fun x_1 g_1 => ?_)
  clear r_1 g_0
  have r_2 : (execOp x_1.eval oQI1).run Try.prog (w.alloc (.cells #[.int .i64 p, .int .i64 q] 23)) = .ok (.value (.pointer (some ⟨w.heap.size + 1, 0, none⟩))) ((w.alloc (.cells #[.int .i64 p, .int .i64 q] 23)).alloc (.cells #[.slice pa n cp, .int .i64 er] 27)) := by
    unfold oQI1
    have e1 := (show x_1.eval (.tmp 1) = .agg #[.slice pa n cp, .int .i64 er] from ((g_1.at_ 1).trans (ha 1 _ rfl)))
    clear g_1 ha hR
    generalize x_1.eval = ρ at *
    go_simp
  refine g_1.stepW 4 (.pointer (some ⟨w.heap.size + 1, 0, none⟩)) rfl (lb_ hsz) (wn rfl) r_2 (fun x_2 g_2 => ?_)
  clear r_2 g_1
  have r_3 : (execOp x_2.eval oQI2).run Try.prog ((w.alloc (.cells #[.int .i64 p, .int .i64 q] 23)).alloc (.cells #[.slice pa n cp, .int .i64 er] 27)) = .ok (.value (.pointer (some ⟨w.heap.size + 1 + 1, 0, none⟩))) (((w.alloc (.cells #[.int .i64 p, .int .i64 q] 23)).alloc (.cells #[.slice pa n cp, .int .i64 er] 27)).alloc (.cells #[.int .u32 (first : Int), .int .u32 (pages : Int)] 29)) := by
    unfold oQI2
    have e2 := (show x_2.eval (.tmp 2) = .agg #[.int .u32 (first : Int), .int .u32 (pages : Int)] from ((g_2.at_ 2).trans (ha 2 _ rfl)))
    clear g_2 ha hR
    generalize x_2.eval = ρ at *
    go_simp
  refine g_2.stepW 5 (.pointer (some ⟨w.heap.size + 1 + 1, 0, none⟩)) rfl (lb_ hsz) (wn rfl) r_3 (fun x_3 g_3 => ?_)
  clear r_3 g_2
  refine g_3.move 6 (.bool false) _ (Or.inr rfl) rfl (lb_ hsz) (wn rfl) rfl (fun x_4 g_4 => ?_)
  clear g_3
  refine wpList_nil ?_
  obtain ⟨V, hV⟩ : ∃ V, V = ((w.alloc (.cells #[.int .i64 p, .int .i64 q] 23)).alloc (.cells #[.slice pa n cp, .int .i64 er] 27)).alloc (.cells #[.int .u32 (first : Int), .int .u32 (pages : Int)] 29) := ⟨_, rfl⟩
  rw [← hV]
  have sV : Same w V := by rw [hV]; exact (((Fr.refl _ w).alloc _).alloc _).alloc _
  have r0 : V.heap[w.heap.size]? = some (.cells #[.int .i64 p, .int .i64 q] 23 (0, 0)) := by rw [hV]; exact ((((Fr.refl (fun _ => False) (w.alloc (.cells #[.int .i64 p, .int .i64 q] 23))).alloc _).alloc _).block _ (by simp) (fun f => f)).trans (heap_alloc_new w _)
  have r1 : V.heap[w.heap.size + 1]? = some (.cells #[.slice pa n cp, .int .i64 er] 27 (0, 0)) := by
    rw [hV]
    have e := heap_alloc_new (w.alloc (.cells #[.int .i64 p, .int .i64 q] 23)) (.cells #[.slice pa n cp, .int .i64 er] 27)
    rw [show (w.alloc (.cells #[.int .i64 p, .int .i64 q] 23)).heap.size = w.heap.size + 1 from by simp] at e
    exact (((Fr.refl (fun _ => False) ((w.alloc (.cells #[.int .i64 p, .int .i64 q] 23)).alloc (.cells #[.slice pa n cp, .int .i64 er] 27))).alloc _).block _ (by simp) (fun f => f)).trans e
  have r2 : V.heap[w.heap.size + 1 + 1]? = some (.cells #[.int .u32 (first : Int), .int .u32 (pages : Int)] 29 (0, 0)) := by
    rw [hV]
    have e := heap_alloc_new ((w.alloc (.cells #[.int .i64 p, .int .i64 q] 23)).alloc (.cells #[.slice pa n cp, .int .i64 er] 27)) (.cells #[.int .u32 (first : Int), .int .u32 (pages : Int)] 29)
    rw [show ((w.alloc (.cells #[.int .i64 p, .int .i64 q] 23)).alloc (.cells #[.slice pa n cp, .int .i64 er] 27)).heap.size = w.heap.size + 1 + 1 from by simp] at e
    exact e
  have b0 : V.cell? ⟨w.heap.size + 1, 0, none⟩ = some (.slice pa n cp) := (cell_of_row _ _ _ _ _ _ r1).trans rfl
  have b1 : V.cell? ⟨w.heap.size + 1, 1, none⟩ = some (.int .i64 er) := (cell_of_row _ _ _ _ _ _ r1).trans rfl
  clear hV
  change Code.wp _ _ _ _ _
  refine wp_seq (wp_seq ?_)
  refine wp_region_list ?_
  unfold rFR1
  have r_5 : (execOp x_4.eval oQI3).run Try.prog (V) = .ok (.value (.pointer (some ⟨w.heap.size + 1, 1, none⟩))) (V) := by
    unfold oQI3
    have e4 : x_4.eval (.tmp 4) = .pointer (some ⟨w.heap.size + 1, 0, none⟩) := g_4.at_ 4
    clear g_4 ha hR
    generalize x_4.eval = ρ at *
    go_simp
  refine g_4.step 19 _ rfl (lb_ hsz) (wn rfl) r_5 (fun x_5 g_5 => ?_)
  clear r_5 g_4
  have r_6 : (execOp x_5.eval oQI4).run Try.prog (V) = .ok (.value (.int .i64 er)) (V) := by
    unfold oQI4
    have e19 : x_5.eval (.tmp 19) = .pointer (some ⟨w.heap.size + 1, 1, none⟩) := g_5.at_ 19
    clear g_5 ha hR
    generalize x_5.eval = ρ at *
    go_simp
  refine g_5.step 20 _ rfl (lb_ hsz) (wn rfl) r_6 (fun x_6 g_6 => ?_)
  clear r_6 g_5
  have r_7 : (execOp x_6.eval oQI5).run Try.prog (V) = .ok (.value (.bool false)) (V) := by
    unfold oQI5
    have kc : ∀ v, x_6.eval (.const v) = v := fun _ => rfl
    have e20 : x_6.eval (.tmp 20) = .int .i64 er := g_6.at_ 20
    clear g_6 ha hR
    generalize x_6.eval = ρ at *
    go_simp
  refine g_6.step 21 _ rfl (lb_ hsz) (wn rfl) r_7 (fun x_7 g_7 => ?_)
  clear r_7 g_6
  refine wpList_nil ?_
  change Code.wp _ _ _ _ _
  refine wp_cond_false (show x_7.eval (.tmp 21) = .bool false from (g_7.at_ 21)) (wp_skip ?_)
  change Code.wp _ _ _ _ _
  exact hR x_7 V er he (g_7.size.trans hsz) (g_7.defers.trans hd) (show x_7.eval (.tmp 3) = .pointer (some ⟨w.heap.size, 0, none⟩) from (g_7.at_ 3)) (show x_7.eval (.tmp 4) = .pointer (some ⟨w.heap.size + 1, 0, none⟩) from (g_7.at_ 4)) (show x_7.eval (.tmp 5) = .pointer (some ⟨w.heap.size + 1 + 1, 0, none⟩) from (g_7.at_ 5)) r0 r1 r2 sV
theorem rdr_wt {p q : Int} {pages : Nat} {P : List Pgd} {f : Nat → Bool} {at_ : Nat} {acc : List (Nat × List Nat)} {R : RRes} (h : Rdr p q pages P f at_ acc R) : wtK acc + cntR pages f ≤ pages → wtK (rKey R) ≤ pages := by
  induction h with
  | done => intro h; exact Nat.le_trans (Nat.le_add_right _ _) h
  | miss => intro _; exact Nat.zero_le _
  | bad1 => intro _; exact Nat.zero_le _
  | bad2 => intro _; exact Nat.zero_le _
  | next h0 h1 h2 h3 h4 h5 ih =>
    intro h
    refine ih ?_
    have := ok_cnt h4
    simp only [wtK_app]
    omega
theorem rkey_wt {p q : Int} {pages first : Nat} {P : List Pgd} {R : RRes} (h : Rdr p q pages P (fun _ => false) first [] R) : wtK (rKey R) ≤ pages := rdr_wt h (by rw [cnt_none]; simp [wtK])
theorem wtK_mem : ∀ (l : List (Nat × List Nat)) (y : Nat × List Nat), y ∈ l → y.2.length + 1 ≤ wtK l
  | [], _, h => by cases h
  | x :: l, y, h => by
    have e : wtK (x :: l) = x.2.length + 1 + wtK l := by simp [wtK]
    rcases List.mem_cons.1 h with rfl | h
    · omega
    · have := wtK_mem l y h; omega
theorem wtK_len : ∀ (l : List (Nat × List Nat)), l.length ≤ wtK l
  | [] => Nat.zero_le _
  | x :: l => by
    have e : wtK (x :: l) = x.2.length + 1 + wtK l := by simp [wtK]
    have := wtK_len l
    rw [List.length_cons]
    omega
theorem rkey_small {p q : Int} {pages first : Nat} {P : List Pgd} {l : List (Nat × List Nat)} (h : Rdr p q pages P (fun _ => false) first [] (.ok l)) (hp : pages ≤ 65536) : l.length ≤ 1100000 := by
  have h1 : wtK l ≤ pages := rkey_wt h
  have := wtK_len l
  omega
theorem rkey_lens {p q : Int} {pages first : Nat} {P : List Pgd} {l : List (Nat × List Nat)} (h : Rdr p q pages P (fun _ => false) first [] (.ok l)) (hp : pages ≤ 65536) : ∀ y ∈ l, y.2.length ≤ 1099511627000 := fun y hy => by
  have h1 : wtK l ≤ pages := rkey_wt h
  have := wtK_mem l y hy
  omega
theorem rkey_len {p q : Int} {pages first : Nat} {P : List Pgd} {R : RRes} (h : Rdr p q pages P (fun _ => false) first [] R) {N : List Bt} (hk : N.map Bt.key = rKey R) (hp : pages ≤ 65536) : ∀ x ∈ N, x.ns.length ≤ 1099511627000 := fun x hx => by
  have h1 := rkey_wt h
  have h2 : x.key ∈ rKey R := by rw [← hk]; exact List.mem_map.2 ⟨x, hx, rfl⟩
  have h3 := wtK_mem _ _ h2
  have h4 : x.key.2.length = x.ns.length := rfl
  omega
theorem freads_walk {p q er : Int} {first pages pb po n cp : Nat} {pa : Option Addr} {P : List Pgd} (w : World) (hr : PdRow w pa pb po P) (hn : n = P.length) (hnb : n ≤ 4000000) (hs : ∀ x ∈ P, x.body.size ≤ 281474976710656) (hkd : ∀ x ∈ P, x.kind < 256) (hfi : first < 4294967296) :
    Calls Try.prog 3 #[.agg #[.int .i64 p, .int .i64 q], .agg #[.slice pa n cp, .int .i64 er], .agg #[.int .u32 (first : Int), .int .u32 (pages : Int)]] w fun e w' => e = .returned (.bool true) ∧ Same w w' := by
  have hR : ∀ (a : Act) (V : World) (e2 : Int), ¬ e2 = 0 → a.tmps.size = 130 → a.defers = [] → a.eval (.tmp 3) = .pointer (some ⟨w.heap.size, 0, none⟩) → a.eval (.tmp 4) = .pointer (some ⟨w.heap.size + 1, 0, none⟩) → a.eval (.tmp 5) = .pointer (some ⟨w.heap.size + 1 + 1, 0, none⟩) → V.heap[w.heap.size]? = some (.cells #[.int .i64 p, .int .i64 q] 23 (0, 0)) → V.heap[w.heap.size + 1]? = some (.cells #[.slice pa n cp, .int .i64 e2] 27 (0, 0)) → V.heap[w.heap.size + 1 + 1]? = some (.cells #[.int .u32 (first : Int), .int .u32 (pages : Int)] 29 (0, 0)) → Same w V → cFRB.wp Try.prog (bodyPost Try.prog Try.f3 fun e w' => e = .returned (.bool true) ∧ Same w w') a V := by
    intro a V e2 he hsz hd h3 h4 h5 r0 r1 r2 sV
    have hB : Bok V (w.heap.size + 1) pa pb po n cp P e2 := ⟨(cell_of_row _ _ _ _ _ _ r1).trans rfl, (cell_of_row _ _ _ _ _ _ r1).trans rfl, hr.same sV, hn, hnb, hs⟩
    have hfin : ∀ (a : Act) (W : World), a.defers = [] → a.eval (.tmp 6) = .bool true → Same V W → bodyPost Try.prog Try.f3 (fun e w' => e = .returned (.bool true) ∧ Same w w') .ret a W := fun a W hd h6 s => ret_abs rfl hd h6 ⟨rfl, sV.trans s⟩
    have hQp : ∀ c (a : Act) d v W, bodyPost Try.prog Try.f3 (fun e w' => e = .returned (.bool true) ∧ Same w w') (.panic c) (a.put d v) W → bodyPost Try.prog Try.f3 (fun e w' => e = .returned (.bool true) ∧ Same w w') (.panic c) a W := fun c a d v W h => panic_put h
    have hC : ∀ (ce : Int), chkE p q pages [] = ce → ∀ Z, Calls Try.prog 6 #[.agg #[.int .i64 p, .int .i64 q], .slice none 0 0, .int .u32 (pages : Int)] Z fun e w' => e = .returned (.int .i64 ce) ∧ Same Z w' := fun ce hc Z => by
      have := dcheck9_calls (p := p) (q := q) (pages := pages) (pa := none) (pb := 0) (po := 0) (n := 0) (cp := 0) (L := []) Z ⟨fun e => absurd rfl e, fun j x hj => by simp at hj⟩ rfl (Nat.zero_le _)
      rw [← chk_both, hc] at this
      exact this
    by_cases hok : frameP p q = true ∧ 2 ≤ pages ∧ pages ≤ 65536
    · obtain ⟨hf, hp1, hp2⟩ := hok
      have hc0 : chkE p q pages [] = 0 := by
        unfold chkE
        rw [if_neg (by rw [hf]; decide), if_neg (by omega)]
        rfl
      obtain ⟨RR, hRR⟩ := rdr_ex (p := p) (q := q) (pages := pages) (P := P) _ (fun _ => false) first [] (Nat.le_refl _)
      have kRead : ∀ Z, Same V Z → Calls Try.prog 4 #[.agg #[.int .i64 p, .int .i64 q], .iface 33 (.pointer (some ⟨w.heap.size + 1, 0, none⟩)), .int .u32 (first : Int), .int .u32 (pages : Int)] Z fun e w' => RdOut (rKey RR).length (rKey RR) (rErr e2 RR) Z e w' := fun Z s => by
        refine (fread_calls Z (hB.same s) he hf hp1 hp2 hfi hRR).mono fun e w' ⟨ao, cc, N, h1, h2, h3, h4⟩ => ?_
        have h5 : N.length = (rKey RR).length := by rw [← h3, List.length_map]
        rw [h5] at h1
        exact ⟨ao, cc, N, h1, h2, h3, h5, h4⟩
      have kDoc : ∀ Z, Same V Z → Calls Try.prog 7 #[.agg #[.int .i64 p, .int .i64 q], .slice pa n cp, .int .u32 (first : Int), .int .u32 (pages : Int)] Z fun e w' => ∃ ow cw NW, e = .returned (.tuple #[.slice ow (rKey RR).length cw, .int .i64 (dErr RR)]) ∧ (∃ gw, BrRow w' ow gw 0 NW ∧ BrGe Z.heap.size gw NW) ∧ NW.map Bt.key = rKey RR ∧ NW.length = (rKey RR).length ∧ Same Z w' := fun Z s => by
        refine (dread_calls Z ((hr.same sV).same s) hn hnb hs hkd hp2 hfi hRR).mono fun e w' ⟨ao, cc, N, h1, h2, h3, h4, h6⟩ => ?_
        have h5 : N.length = (rKey RR).length := by rw [← h4, List.length_map]
        obtain ⟨gw, hgw⟩ := new_br h2 h3 (rkey_len hRR h4 hp2)
        rw [h5] at h1
        refine ⟨ao, cc, N, h1, ⟨gw, hgw, ⟨fun e => ?_, fun x hx e => ?_⟩⟩, h4, h5, h6⟩
        · have := (hgw.place e).1
          rw [this] at h2
          exact (own_ge h2).1
        · have h7 := (h3 x hx).own
          rw [((h3 x hx).row.place e).1] at h7
          exact (own_ge h7).1
      cases RR with
      | none =>
        exact fr_none hQp a V hsz hd h3 h4 h5 ((cell_of_row _ _ _ _ _ _ r0).trans rfl) ((cell_of_row _ _ _ _ _ _ r0).trans rfl) hB.b0 hB.b1 ((cell_of_row _ _ _ _ _ _ r2).trans rfl) ((cell_of_row _ _ _ _ _ _ r2).trans rfl) kRead (fun Z => fread_nil Z) (fun Z _ => hC 0 hc0 Z) (fun Z s => (kDoc Z s).mono fun e w' ⟨ow, cw, NW, h1, _, _, _, h6⟩ => ⟨⟨ow, cw, h1⟩, h6⟩) awake9_calls hfin
      | bad =>
        exact fr_good (KEY := []) (m := 0) (ge := 8) hQp a V hsz hd h3 h4 h5 ((cell_of_row _ _ _ _ _ _ r0).trans rfl) ((cell_of_row _ _ _ _ _ _ r0).trans rfl) hB.b0 hB.b1 ((cell_of_row _ _ _ _ _ _ r2).trans rfl) ((cell_of_row _ _ _ _ _ _ r2).trans rfl) (by decide) (by decide) (fun y hy => by cases hy) kRead (fun Z => fread_nil Z) (fun Z _ => hC 0 hc0 Z) kDoc awake9_calls hfin
      | ok l =>
        exact fr_good (KEY := l) (m := l.length) (ge := 0) hQp a V hsz hd h3 h4 h5 ((cell_of_row _ _ _ _ _ _ r0).trans rfl) ((cell_of_row _ _ _ _ _ _ r0).trans rfl) hB.b0 hB.b1 ((cell_of_row _ _ _ _ _ _ r2).trans rfl) ((cell_of_row _ _ _ _ _ _ r2).trans rfl) (by decide) (rkey_small hRR hp2) (rkey_lens hRR hp2) kRead (fun Z => fread_nil Z) (fun Z _ => hC 0 hc0 Z) kDoc awake9_calls hfin
    · have hbad : frameP p q = false ∨ pages < 2 ∨ 65536 < pages := by
        cases hf : frameP p q with
        | false => exact Or.inl rfl
        | true => rw [hf] at hok; right; simp only [true_and] at hok; omega
      have hc2 : chkE p q pages [] = 2 := by
        unfold chkE
        rcases hbad with h | h
        · rw [if_pos h]
        · cases hf : frameP p q with
          | false => rfl
          | true => rw [if_neg (by decide), if_pos h]
      exact fr_bad hQp a V hsz hd h3 h4 h5 ((cell_of_row _ _ _ _ _ _ r0).trans rfl) ((cell_of_row _ _ _ _ _ _ r0).trans rfl) hB.b0 hB.b1 ((cell_of_row _ _ _ _ _ _ r2).trans rfl) ((cell_of_row _ _ _ _ _ _ r2).trans rfl) (fun Z _ => fread_bad Z hbad) (fun Z => fread_nil Z) (fun Z _ => hC 2 hc2 Z) awake9_calls hfin
  by_cases he : er = 0
  · subst he
    exact fr_hz w hR
  · exact fr_hn w he hR
end Go.Proofs.Ytajbifblbmlffaa
