/- Frames and nodes that come in, opened. -/
import Derived.Test.YtmgkdnejjemfeaaKL
import Derived.Test.YtmgkdnejjemfeaaKM
import Derived.Deep.Slices
import Derived.Deep.Strs
import Derived.JoinedCond
import Derived.Lib.SmallJoins
namespace Go.Proofs.Ytmgkdnejjemfeaa
open Go.ChangeShapes Go.WideShapes Go.ChangeAt Go.RowKit Go.Joins

theorem trow_part {w : World} {pa : Option Addr} {pb po cp : Nat} {ps : List ByteArray} (h : TRow w pa pb po ps) (hc : pa = none → cp = 0) : PartOk w 1 ⟨pa, ps.length, cp, scells ps⟩ := by
  refine ⟨by simp [scells], fun e => ?_, fun a ha j u hj => ?_, scells_one ps⟩
  · simp only at e
    refine ⟨?_, hc e⟩
    show ps.length = 0
    have : ps = [] := Classical.byContradiction fun e2 => by have := (h.place e2).1; rw [e] at this; cases this
    rw [this]; rfl
  · obtain ⟨e, _⟩ := h.place (by intro e; simp only at hj; rw [e] at hj; simp [scells] at hj)
    simp only at ha
    rw [e] at ha
    cases ha
    rw [WideShapes.add_plain]; exact trow_news h j u hj
theorem krow_part {w : World} {pa : Option Addr} {pb po cp : Nat} {ps : List Kid} (hok : ∀ x ∈ ps, KidOk x) (h : KRow w pa pb po ps) (hc : pa = none → cp = 0) : PartOk w 33 ⟨pa, ps.length, cp, kcellsL ps⟩ := by
  refine ⟨flat_length kcells 33 ps (fun x hx => kcells_length (hok x hx).d), fun e => ?_, fun a ha j u hj => ?_, kcellsL_one ps⟩
  · simp only at e
    refine ⟨?_, hc e⟩
    show ps.length = 0
    have : ps = [] := Classical.byContradiction fun e2 => by have := (h.place e2).1; rw [e] at this; cases this
    rw [this]; rfl
  · obtain ⟨e, _⟩ := h.place (by intro e; simp only at hj; rw [e] at hj; simp [kcellsL] at hj)
    simp only at ha
    rw [e] at ha
    cases ha
    rw [WideShapes.add_plain]; exact krow_news hok h j u hj
theorem Try.cellsFrame : Try.prog.cellsOf 23 = 2 := by kernel_rfl
set_option maxRecDepth 100000 in
theorem open_frame {H : Type} {enc : TypeId × Value → H} {W : World} {v : Value} {d : DataW H} {pl : List MemPlace} {base : Nat}
    (hv : Value.okWide Try.prog W .any base 23 v) (h : DataW.Trod enc Try.prog W 0 (fun _ => true) true 23 v d pl) :
    ∃ p q, v = .agg #[.int .i64 p, .int .i64 q] := by
  obtain ⟨cs, rfl, hz⟩ := okWide_struct Try.underlying23 hv
  rw [Try.cellsFrame] at hz
  obtain ⟨fuel, hf⟩ := h
  obtain ⟨x, y, rfl⟩ : ∃ x y, cs = #[x, y] := by
    obtain ⟨l⟩ := cs
    match l, hz with
    | [x, y], _ => exact ⟨x, y, rfl⟩
  obtain ⟨y0, y1, n, hx, _, f0, f1⟩ := trod_struct2 Try.underlying23 hf
  have c4 : Try.prog.cellsOf 3 = 1 := by kernel_rfl
  simp only [Value.cells, c4, List.drop_succ_cons, List.drop_zero, List.take_succ_cons, List.take_zero] at f0 f1
  obtain ⟨a, e0, g0, _⟩ := DataW.trod_int Try.underlying3 f0
  obtain ⟨b, e1, g1, _⟩ := DataW.trod_int Try.underlying3 f1
  simp only [List.cons.injEq, and_true] at e0 e1
  subst e0; subst e1
  exact ⟨a, b, rfl⟩
instance : Inhabited Kid := ⟨⟨0, []⟩⟩
theorem Try.cellsDig : Try.prog.cellsOf 57 = 32 := by kernel_rfl
theorem list_of_ones (l : List Value) (h : ∀ i, i < l.length → ∃ x : UInt8, l[i]? = some (.int .u8 x.toNat)) : ∃ D : List UInt8, l = bcells D := by
  induction l with
  | nil => exact ⟨[], rfl⟩
  | cons v l ih =>
    obtain ⟨x, hx⟩ := h 0 (by simp)
    obtain ⟨D, hD⟩ := ih (fun i hi => by have := h (i + 1) (by simp; omega); simpa using this)
    refine ⟨x :: D, ?_⟩
    rw [List.getElem?_cons_zero, Option.some.injEq] at hx
    rw [hx, hD]; rfl
set_option maxRecDepth 100000 in
theorem open_digest_in {H : Type} {enc : TypeId × Value → H} {W : World} {d : DataW H × List MemPlace} {fuel : Nat} {cs : List Value}
    (hf : DataW.trod enc Try.prog W 0 (fun _ => true) true fuel 57 cs = some d) : ∃ D : List UInt8, cs = bcells D ∧ D.length = 32 := by
  obtain ⟨xs, m, _, _, hl, hn, hi⟩ := DataW.trod_array Try.aund32 hf
  rw [Try.cellsDig] at hl
  rw [Try.cells8] at hi
  have hall : ∀ i, i < cs.length → ∃ x : UInt8, cs[i]? = some (.int .u8 x.toNat) := by
    intro i hlt
    have h1 := hi i (by omega)
    rw [List.getElem?_eq_getElem (show i < xs.length by omega), Nat.mul_one] at h1
    obtain ⟨n, e, _, wf⟩ := DataW.trod_int Try.und8 h1
    have hb := bounds_u8 wf
    have e2 : cs[i]? = some (.int .u8 n) := by
      have := congrArg (fun l => l[0]?) e
      simp only [List.getElem?_take, List.getElem?_drop, List.getElem?_cons_zero, Nat.add_zero] at this
      simpa using this
    refine ⟨UInt8.ofNat n.toNat, ?_⟩
    rw [e2]
    congr 2
    rw [UInt8.toNat_ofNat']
    omega
  obtain ⟨D, hD⟩ := list_of_ones cs hall
  exact ⟨D, hD, by rw [hD, bcells_length] at hl; exact hl⟩
theorem one_of {cs : List Value} {i : Nat} {v : Value} (h : (cs.drop i).take 1 = [v]) : cs[i]? = some v := by
  have := congrArg (fun l => l[0]?) h
  simp only [List.getElem?_take, List.getElem?_drop, List.getElem?_cons_zero, Nat.add_zero] at this
  simpa using this
theorem one_get {cs : List Value} {i : Nat} {v : Value} (h : (cs.drop i).take 1 = [v]) : cs.drop i = v :: cs.drop (i + 1) := by
  have h1 := one_of h
  have hlt := (List.getElem?_eq_some_iff.1 h1).1
  rw [List.drop_eq_getElem_cons hlt]
  congr 1
  rw [List.getElem?_eq_getElem hlt] at h1
  exact Option.some.inj h1

theorem add_pl (b o i : Nat) : (⟨b, o, none⟩ : Addr).add i = ⟨b, o + i, none⟩ := by
  unfold Addr.add; split
  · next h => subst h; rfl
  · rfl
theorem bulk_sumG {H : Type} {α : Type} (wt : α → Nat) (l : List Nat) (D : Nat → DataW H) (T : Nat → α) (h : ∀ i ∈ l, wt (T i) ≤ Rows.uptoBulk (D i)) : ((l.map T).map wt).sum ≤ Rows.uptoBulkAll (l.map D) := by
  induction l with
  | nil => simp
  | cons x l ih =>
    have h1 := h x (by simp)
    have h2 := ih (fun i hi => h i (by simp [hi]))
    rw [List.map_cons, List.map_cons, List.sum_cons, List.map_cons, Rows.uptoBulkAll]; omega
set_option maxRecDepth 100000 in
/-- A list of things of so many cells that came in. -/
theorem open_rows {H : Type} {enc : TypeId × Value → H} {W : World} {d : DataW H × List MemPlace} {fuel : Nat} {cs : List Value} {t e : TypeId} {α : Type} [Inhabited α] (n : Nat) (hn : 0 < n) (cells : α → List Value) (OK : α → Prop) (wt : α → Nat)
    (hu : Try.prog.underlying t = some (.slice e)) (hc : Try.prog.cellsOf e = n)
    (hE : ∀ (m : Nat) (c : List Value) (x : DataW H × List MemPlace), c.length = n → DataW.trod enc Try.prog W 0 (fun _ => true) true m e c = some x → ∃ a : α, c = cells a ∧ OK a ∧ wt a ≤ Rows.uptoBulk x.1)
    (hf : DataW.trod enc Try.prog W 0 (fun _ => true) true fuel t cs = some d) :
    ∃ (pa : Option Addr) (pb po cp : Nat) (xs : List α), cs = [.slice pa xs.length cp] ∧ xs.length ≤ cp ∧ cp ≤ maxLen ∧ (xs ≠ [] → pa = some ⟨pb, po, none⟩ ∧ pb < W.heap.size) ∧ (∀ j x, xs[j]? = some x → W.rangeAt pb (po + j * n) (cells x)) ∧ (∀ x ∈ xs, OK x) ∧ (pa = none → cp = 0) ∧ (xs.map wt).sum ≤ Rows.uptoBulk d.1 := by
  rcases Deep.open_slice hu hf with ⟨rfl, rfl⟩ | ⟨a, len, cap, mm, nn, D, Pl, rfl, _, hl, hm, hmm, rfl, hel⟩
  · exact ⟨none, 0, 0, 0, [], rfl, by simp, by simp, fun h => absurd rfl h, fun j x hx => by simp at hx, by simp, fun _ => rfl, by simp⟩
  · have hmc : mm = cap := by simpa using hmm
    subst hmc
    rw [hc] at hel
    obtain ⟨T, hT⟩ := Deep.choose_lt (α := α) (n := len) (p := fun i x => W.cells? 0 (a.add (i * n)) n = some (cells x) ∧ OK x ∧ wt x ≤ Rows.uptoBulk (D i)) (fun i hi => by
      obtain ⟨c, h1, h2⟩ := hel i (by omega)
      obtain ⟨_, hcl, _⟩ := World.cells?_some h1
      obtain ⟨x, rfl, h3, h4⟩ := hE nn c _ hcl h2
      exact ⟨x, h1, h3, h4⟩)
    have hsum := bulk_sumG wt (List.range len) D T (fun i hi => (hT i (List.mem_range.1 hi)).2.2)
    have hlen : ((List.range len).map T).length = len := by simp
    have hs : 0 < len → ∃ b off, a = ⟨b, off, none⟩ ∧ b < W.heap.size := fun h0 => by
      obtain ⟨_, hcl, hce⟩ := World.cells?_some (hT 0 h0).1
      have hc0 := hce 0 hn
      rw [List.getElem?_eq_getElem (by omega)] at hc0
      obtain ⟨b, off, spot⟩ := a
      have hspot : spot = none := by simpa [Addr.add] using World.cell?_spot hc0
      subst hspot
      refine ⟨b, off, rfl, ?_⟩
      have := World.block_lt_of_cell? _ _ hc0
      simpa [Addr.add] using this
    refine ⟨some a, a.block, a.off, mm, (List.range len).map T, by rw [hlen], by omega, hm, ?_, ?_, ?_, fun e => by (cases e), ?_⟩
    · intro hne
      have h0 : 0 < len := by
        rcases Nat.eq_zero_or_pos len with h | h
        · subst h; exact absurd rfl hne
        · exact h
      obtain ⟨b, off, rfl, hb⟩ := hs h0
      exact ⟨rfl, hb⟩
    · intro j x hj
      have hj1 : j < len := by
        have := (List.getElem?_eq_some_iff.1 hj).1
        omega
      have hjt : x = T j := by
        rw [List.getElem?_map, List.getElem?_range hj1] at hj
        simpa using hj.symm
      subst hjt
      obtain ⟨_, hcl, hce⟩ := World.cells?_some (hT j hj1).1
      intro i v hv
      have hi : i < n := by
        have := (List.getElem?_eq_some_iff.1 hv).1
        omega
      have h1 := hce i hi
      rw [hv] at h1
      obtain ⟨b, off, rfl, hb⟩ := hs (by omega)
      rw [add_pl, add_pl] at h1
      exact h1
    · intro x hx
      obtain ⟨k, hk, rfl⟩ := List.mem_map.1 hx
      exact (hT k (List.mem_range.1 hk)).2.1
    · rw [Rows.uptoBulk]; omega
set_option maxRecDepth 100000 in
theorem open_pair_in {H : Type} {enc : TypeId × Value → H} {W : World} {d : DataW H × List MemPlace} {fuel : Nat} {cs : List Value} (hz : cs.length = 2)
    (hf : DataW.trod enc Try.prog W 0 (fun _ => true) true fuel 48 cs = some d) : ∃ x : ByteArray × ByteArray, cs = [.string x.1, .string x.2] ∧ True ∧ x.1.size + x.2.size + 3 ≤ Rows.uptoBulk d.1 := by
  obtain ⟨x, y, rfl⟩ : ∃ x y, cs = [x, y] := by
    match cs, hz with
    | [x, y], _ => exact ⟨x, y, rfl⟩
  obtain ⟨y0, y1, n, hx, _, f0, f1⟩ := trod_struct2 Try.underlying48 hf
  have c4 : Try.prog.cellsOf 9 = 1 := by kernel_rfl
  simp only [c4, List.drop_succ_cons, List.drop_zero, List.take_succ_cons, List.take_zero] at f0 f1
  obtain ⟨s0, e0, g0, _⟩ := DataW.trod_string Try.underlying9 f0
  obtain ⟨s1, e1, g1, _⟩ := DataW.trod_string Try.underlying9 f1
  simp only [List.cons.injEq, and_true] at e0 e1
  subst e0 e1
  refine ⟨(s0, s1), rfl, trivial, ?_⟩
  rw [hx]
  simp only [g0, g1, Rows.uptoBulk, Rows.uptoBulkAll, bytes_length]
  omega
theorem open_text_in {H : Type} {enc : TypeId × Value → H} {W : World} {d : DataW H × List MemPlace} {fuel : Nat} {cs : List Value}
    (hf : DataW.trod enc Try.prog W 0 (fun _ => true) true fuel 9 cs = some d) : ∃ x : ByteArray, cs = [.string x] ∧ True ∧ x.size + 1 ≤ Rows.uptoBulk d.1 := by
  obtain ⟨s0, e0, g0, _⟩ := DataW.trod_string Try.underlying9 hf
  refine ⟨s0, e0, trivial, ?_⟩
  rw [g0]; simp only [Rows.uptoBulk, bytes_length]; omega
set_option maxRecDepth 100000 in
theorem open_kid_in {H : Type} {enc : TypeId × Value → H} {W : World} {d : DataW H × List MemPlace} {fuel : Nat} {cs : List Value} (hz : cs.length = 33)
    (hf : DataW.trod enc Try.prog W 0 (fun _ => true) true fuel 59 cs = some d) : ∃ k : Kid, cs = kcells k ∧ KidOk k ∧ 1 ≤ Rows.uptoBulk d.1 := by
  obtain ⟨y0, y1, n, hx, _, f0, f1⟩ := trod_struct2 Try.underlying59 hf
  have c2 : Try.prog.cellsOf 55 = 1 := by kernel_rfl
  simp only [c2, Try.cellsDig] at f0 f1
  obtain ⟨a0, e0, _, w0⟩ := DataW.trod_int Try.underlying55 f0
  obtain ⟨D, iD, hD⟩ := open_digest_in f1
  have k0 := bounds_u32 w0
  obtain ⟨a0, rfl⟩ := Int.eq_ofNat_of_zero_le k0.1
  refine ⟨⟨a0, D⟩, ?_, ⟨by simp only; omega, hD⟩, by rw [hx]; simp [Rows.uptoBulk]⟩
  have h1 := one_get e0
  rw [List.drop_zero] at h1
  rw [h1]
  show _ = Value.int .u32 a0 :: bcells D
  congr 1
  rw [List.take_of_length_le (by rw [List.length_drop]; omega)] at iD
  exact iD
theorem sum_len {α : Type} (wt : α → Nat) (l : List α) (h : ∀ x ∈ l, 1 ≤ wt x) : l.length ≤ (l.map wt).sum := by
  induction l with
  | nil => simp
  | cons x l ih =>
    have h1 := h x (by simp)
    have h2 := ih (fun y hy => h y (by simp [hy]))
    rw [List.map_cons, List.sum_cons, List.length_cons]; omega
/-- How much a node that came in holds. -/
structure NdSmall (N : Nd) : Prop where
  hp : (N.ps.map fun x => x.1.size + x.2.size + 3).sum ≤ 1048576
  hs : (N.ss.map fun x => x.size + 1).sum ≤ 1048576
  hk : N.ks.length ≤ 1048576
theorem sum_mem {α : Type} (wt : α → Nat) (l : List α) {x : α} (h : x ∈ l) : wt x ≤ (l.map wt).sum := by
  induction l with
  | nil => cases h
  | cons y l ih =>
    rw [List.map_cons, List.sum_cons]
    rcases List.mem_cons.1 h with rfl | h
    · omega
    · have := ih h; omega
theorem sum_len3 (l : List (ByteArray × ByteArray)) : 3 * l.length ≤ (l.map fun x => x.1.size + x.2.size + 3).sum := by
  induction l with
  | nil => simp
  | cons x l ih => rw [List.map_cons, List.sum_cons, List.length_cons]; omega
theorem NdSmall.lens {N : Nd} (h : NdSmall N) : N.ps.length ≤ 1048576 ∧ N.ss.length ≤ 1048576 ∧ N.ks.length ≤ 1048576 ∧ 3 * N.ps.length ≤ 1048576 ∧ (∀ x ∈ N.ps, x.1.size ≤ 1048576 ∧ x.2.size ≤ 1048576) := by
  have n0 := sum_len (fun x : ByteArray × ByteArray => x.1.size + x.2.size + 3) N.ps (fun x _ => by omega)
  have n1 := sum_len (fun x : ByteArray => x.size + 1) N.ss (fun x _ => by omega)
  have h1 := h.hp; have h2 := h.hs
  have n3 := sum_len3 N.ps
  refine ⟨by omega, by omega, h.hk, by omega, fun x hx => ?_⟩
  have := sum_mem (fun x : ByteArray × ByteArray => x.1.size + x.2.size + 3) N.ps hx
  omega
end Go.Proofs.Ytmgkdnejjemfeaa
