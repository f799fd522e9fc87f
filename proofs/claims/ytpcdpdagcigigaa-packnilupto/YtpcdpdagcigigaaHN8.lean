/-
  A step, plainly; its bytes; a list of steps that came in, opened.
-/
import Derived.Test.YtpcdpdagcigigaaU0
import Derived.Test.YtpcdpdagcigigaaWL
import Derived.Deep.Slices
import Derived.OpenShut
import Derived.ProofKit
namespace Go.Proofs.Ytpcdpdagcigigaa
open Go.ChangeShapes Go.WideShapes Go.ChangeAt Go.RowKit

structure StepP where
  kd : Int
  n : Nat
  i : Int
  s : ByteArray
  parts : List ByteArray
  ns : List Nat
  wd : Int
  m : Nat
  bd : Int
instance : Inhabited StepP := ⟨⟨0, 0, 0, ⟨#[]⟩, [], [], 0, 0, 0⟩⟩

/-- The bytes of a step. -/
def encS (t : StepP) : List UInt8 :=
  if t.kd = 0 then fixB 1 t.n else if t.kd = 1 then fixB 2 t.n else if t.kd = 2 then fixB 4 t.n else if t.kd = 3 then fixB 8 t.n
  else if t.kd = 4 then fixB 1 t.n else if t.kd = 5 then fixB 2 t.n else if t.kd = 6 then fixB 4 t.n else if t.kd = 7 then fixB 8 t.n
  else if t.kd = 8 then fixB 2 t.n else if t.kd = 9 then freeB t.n else if t.kd = 10 then freeB (zig t.i) else if t.kd = 11 then flat t.parts
  else if t.kd = 12 then textB t.s else if t.kd = 13 then (dig32 t.s).take (widthN t.wd) else if t.kd = 14 then freeB t.ns.length ++ laidAll freeB t.ns
  else if t.kd = 15 then freeB t.parts.length ++ laidAll textB t.parts else if t.kd = 16 then freeB t.parts.length ++ laidAll textB t.parts else []
def encAll (ts : List StepP) : List UInt8 := (ts.map encS).flatten
theorem encAll_cons (t : StepP) (ts : List StepP) : encAll (t :: ts) = encS t ++ encAll ts := by simp [encAll]
theorem encAll_append (a b : List StepP) : encAll (a ++ b) = encAll a ++ encAll b := by simp [encAll]
theorem encAll_take_succ (ts : List StepP) (k : Nat) (h : k < ts.length) : encAll (ts.take (k + 1)) = encAll (ts.take k) ++ encS ts[k] := by
  rw [List.take_succ_eq_append_getElem h, encAll_append]; simp [encAll]
theorem encAll_take_le (ts : List StepP) (k : Nat) : (encAll (ts.take k)).length ≤ (encAll ts).length := by
  have : encAll ts = encAll (ts.take k) ++ encAll (ts.drop k) := by rw [← encAll_append, List.take_append_drop]
  rw [this, List.length_append]; omega
theorem encAll_split (ts : List StepP) (k : Nat) (h : k < ts.length) : encAll ts = encAll (ts.take k) ++ (encS ts[k] ++ encAll (ts.drop (k + 1))) := by
  rw [← encAll_cons, ← List.drop_eq_getElem_cons h, ← encAll_append, List.take_append_drop]

/-- How much a step weighs. -/
def wt (t : StepP) : Nat := 10 + t.s.size + sumB t.parts + t.ns.length
def wtAll (ts : List StepP) : Nat := (ts.map wt).sum
theorem wt_mem {ts : List StepP} {t : StepP} (h : t ∈ ts) : wt t ≤ wtAll ts := by
  induction ts with
  | nil => cases h
  | cons x ts ih =>
    have e : wtAll (x :: ts) = wt x + wtAll ts := by simp [wtAll]
    rw [e]
    rcases List.mem_cons.1 h with rfl | h
    · omega
    · have := ih h; omega
theorem wt_len (ts : List StepP) : ts.length ≤ wtAll ts := by
  induction ts with
  | nil => simp
  | cons x ts ih =>
    have e : wtAll (x :: ts) = wt x + wtAll ts := by simp [wtAll]
    have : 10 ≤ wt x := by unfold wt; omega
    rw [e, List.length_cons]; omega
structure StepOK (t : StepP) : Prop where
  n : t.n < 18446744073709551616
  i0 : -9223372036854775808 ≤ t.i
  i1 : t.i ≤ 9223372036854775807
  ns : ∀ x ∈ t.ns, x < 18446744073709551616
  w : wt t ≤ 1048576
  kd0 : -9223372036854775808 ≤ t.kd
  kd1 : t.kd ≤ 9223372036854775807
  m : t.m < 18446744073709551616
  wd0 : -9223372036854775808 ≤ t.wd
  wd1 : t.wd ≤ 9223372036854775807
  bd0 : -9223372036854775808 ≤ t.bd
  bd1 : t.bd ≤ 9223372036854775807
theorem StepOK.size {t : StepP} (h : StepOK t) : t.s.size ≤ 1048576 := by have := h.w; unfold wt at this; omega
theorem StepOK.part {t : StepP} (h : StepOK t) {x : ByteArray} (hx : x ∈ t.parts) : x.size ≤ 1048576 := by have := h.w; have := sumB_mem hx; unfold wt at *; omega

theorem flat_sumB (ss : List ByteArray) : (flat ss).length ≤ sumB ss := by
  induction ss with
  | nil => simp [flat]
  | cons s ss ih => rw [flat_cons, List.length_append, bytes_length, sumB_cons]; omega
theorem laid_texts_len (ss : List ByteArray) : (laidAll textB ss).length ≤ 11 * sumB ss := by
  induction ss with
  | nil => simp [laidAll]
  | cons s ss ih =>
    have e : laidAll textB (s :: ss) = textB s ++ laidAll textB ss := by simp [laidAll]
    have h1 := freeB_length s.size
    have h2 := bytes_length s
    rw [sumB_cons, e, List.length_append]
    unfold textB
    rw [List.length_append, h2]; unfold textB at ih; omega
theorem laid_free_len (ns : List Nat) : (laidAll freeB ns).length ≤ 10 * ns.length := by
  induction ns with
  | nil => simp [laidAll]
  | cons s ss ih =>
    have e : laidAll freeB (s :: ss) = freeB s ++ laidAll freeB ss := by simp [laidAll]
    have h1 := freeB_length s
    rw [e, List.length_append, List.length_cons]; omega
theorem len_ite {c : Prop} [Decidable c] {a b : List UInt8} {N : Nat} (h1 : a.length ≤ N) (h2 : b.length ≤ N) : (if c then a else b).length ≤ N := by split <;> assumption
theorem encS_len (t : StepP) : (encS t).length ≤ 11 * wt t := by
  have h1 := fixB_length 1 t.n
  have h2 := fixB_length 2 t.n
  have h4 := fixB_length 4 t.n
  have h8 := fixB_length 8 t.n
  have f1 := freeB_length t.n
  have f2 := freeB_length (zig t.i)
  have f3 := freeB_length t.ns.length
  have f4 := freeB_length t.parts.length
  have f5 := freeB_length t.s.size
  have g1 := flat_sumB t.parts
  have g2 := laid_texts_len t.parts
  have g3 := laid_free_len t.ns
  have g4 : (textB t.s).length ≤ 10 + t.s.size := by unfold textB; rw [List.length_append, bytes_length]; omega
  have g5 : ((dig32 t.s).take (widthN t.wd)).length ≤ 32 := by rw [List.length_take, dig32_length]; omega
  unfold encS wt
  repeat' (with_reducible refine len_ite ?_ ?_)
  all_goals first | omega | (rw [List.length_append]; omega) | (rw [List.length_nil]; omega)
theorem encAll_len (ts : List StepP) : (encAll ts).length ≤ 11 * wtAll ts := by
  induction ts with
  | nil => simp [encAll]
  | cons t ts ih =>
    have e : wtAll (t :: ts) = wt t + wtAll ts := by simp [wtAll]
    have := encS_len t
    rw [encAll_cons, List.length_append, e]; omega

/-- A step lies at an address. -/
def StepCells (B : Nat) (w : World) (ab o : Nat) (t : StepP) : Prop :=
  ∃ pa pl pc na nl nc, w.cell? ⟨ab, o, none⟩ = some (.int .i64 t.kd) ∧ w.cell? ⟨ab, o + 1, none⟩ = some (.int .u64 t.n) ∧ w.cell? ⟨ab, o + 2, none⟩ = some (.int .i64 t.i) ∧ w.cell? ⟨ab, o + 3, none⟩ = some (.string t.s) ∧
    w.cell? ⟨ab, o + 4, none⟩ = some (.slice pa pl pc) ∧ w.cell? ⟨ab, o + 5, none⟩ = some (.slice na nl nc) ∧ w.cell? ⟨ab, o + 6, none⟩ = some (.int .i64 t.wd) ∧ w.cell? ⟨ab, o + 7, none⟩ = some (.int .u64 t.m) ∧ w.cell? ⟨ab, o + 8, none⟩ = some (.int .i64 t.bd) ∧
    ElemIn Value.string B w (.slice pa pl pc) t.parts ∧ ElemIn vNum B w (.slice na nl nc) t.ns
theorem StepCells.below {B : Nat} {w w' : World} {ab o : Nat} {t : StepP} (h : StepCells B w ab o t) (hb : ab < B) (k : Below B w w') : StepCells B w' ab o t := by
  obtain ⟨pa, pl, pc, na, nl, nc, h0, h1, h2, h3, h4, h5, h6, h7, h8, h9, h10⟩ := h
  exact ⟨pa, pl, pc, na, nl, nc, (k.cell (p := ⟨ab, o, none⟩) hb).trans h0, (k.cell (p := ⟨ab, o + 1, none⟩) hb).trans h1, (k.cell (p := ⟨ab, o + 2, none⟩) hb).trans h2, (k.cell (p := ⟨ab, o + 3, none⟩) hb).trans h3, (k.cell (p := ⟨ab, o + 4, none⟩) hb).trans h4,
    (k.cell (p := ⟨ab, o + 5, none⟩) hb).trans h5, (k.cell (p := ⟨ab, o + 6, none⟩) hb).trans h6, (k.cell (p := ⟨ab, o + 7, none⟩) hb).trans h7, (k.cell (p := ⟨ab, o + 8, none⟩) hb).trans h8, h9.below k, h10.below k⟩
/-- A slice of steps below block B. -/
def StepsIn (B : Nat) (w : World) (v : Value) (ts : List StepP) : Prop :=
  ∃ ad c, v = .slice ad ts.length c ∧ ts.length ≤ 100000000000 ∧ (ts = [] ∨ ∃ ab ao, ad = some ⟨ab, ao, none⟩ ∧ ab < B ∧ ∀ k t, ts[k]? = some t → StepCells B w ab (ao + k * 9) t)
theorem StepsIn.below {B : Nat} {w w' : World} {v : Value} {ts : List StepP} (h : StepsIn B w v ts) (k : Below B w w') : StepsIn B w' v ts := by
  obtain ⟨ad, c, hv, hl, h⟩ := h
  refine ⟨ad, c, hv, hl, ?_⟩
  rcases h with h | ⟨ab, ao, e, hlt, h⟩
  · exact Or.inl h
  · exact Or.inr ⟨ab, ao, e, hlt, fun i x hi => (h i x hi).below hlt k⟩

theorem nine {α : Type} (l : List α) (h : l.length = 9) : ∃ a0 a1 a2 a3 a4 a5 a6 a7 a8, l = [a0, a1, a2, a3, a4, a5, a6, a7, a8] := by
  match l, h with
  | [a0, a1, a2, a3, a4, a5, a6, a7, a8], _ => exact ⟨a0, a1, a2, a3, a4, a5, a6, a7, a8, rfl⟩

/-- Texts, as ElemIn. -/
theorem open_texts_in {H : Type} {enc : TypeId × Value → H} {W : World} {cs : List Value} {x : DataW H × List MemPlace} {fuel : Nat}
    (hf : DataW.trod enc Try.prog W 0 (fun _ => true) true fuel 23 cs = some x) (hb : Rows.uptoBulk x.1 ≤ 1048576) :
    ∃ ad l c ss, cs = [.slice ad l c] ∧ ElemIn Value.string W.heap.size W (.slice ad l c) ss ∧ sumB ss + 1 ≤ Rows.uptoBulk x.1 := by
  rcases open_strings Try.underlying23 Try.underlying9 (by kernel_rfl) hf with ⟨rfl, rfl⟩ | ⟨a, len, cap, ss, rfl, _, hl, hm, hz, rfl, hcell, hws⟩
  · exact ⟨none, 0, 0, [], rfl, ⟨none, 0, rfl, by simp, Or.inl rfl⟩, by simp [sumB, Rows.uptoBulk]⟩
  · have hlen : ss.length = cap := by simpa using hz
    have hb2 : Rows.uptoBulk (H := H) (.slice (Go.ChangeShapes.strs (ss.take len)) (Go.ChangeShapes.strs (ss.drop len))) = sumB (ss.take len) + sumB (ss.drop len) + 1 := by
      rw [Rows.uptoBulk, bulk_strs, bulk_strs]
    simp only at hb ⊢
    rw [hb2] at hb ⊢
    have htl : (ss.take len).length = len := by rw [List.length_take]; omega
    have hsl := sumB_len (ss.take len)
    refine ⟨some a, len, cap, ss.take len, rfl, ⟨some a, cap, by rw [htl], by omega, ?_⟩, by omega⟩
    by_cases h0 : len = 0
    · left; subst h0; rfl
    · right
      have hc0 := hcell 0 (by omega)
      obtain ⟨b, off, spot⟩ := a
      have hspot : spot = none := by simpa [Addr.add] using World.cell?_spot hc0
      subst hspot
      refine ⟨b, off, rfl, ?_, ?_⟩
      · have := World.block_lt_of_cell? _ _ hc0
        simpa [Addr.add] using this
      · intro i s hi
        have hilt : i < len := by
          have := (List.getElem?_eq_some_iff.1 hi).1
          omega
        have := hcell i (by omega)
        rw [add_plain] at this
        rw [this]
        rw [List.getElem?_take, if_pos hilt] at hi
        rw [List.getD_eq_getElem?_getD, hi]; rfl

theorem bulk_lits {H : Type} (k : IntKind) (l : List Int) : Rows.uptoBulkAll (H := H) (lits k l) = l.length := by
  induction l with
  | nil => rfl
  | cons a l ih =>
    have e : lits (H := H) k (a :: l) = .lit (.int k a) :: lits k l := rfl
    rw [e, Rows.uptoBulkAll, ih, Rows.uptoBulk, List.length_cons]
    · omega
    · intro b hb; cases hb
/-- Numbers, as ElemIn. -/
theorem open_nums_in {H : Type} {enc : TypeId × Value → H} {W : World} {cs : List Value} {x : DataW H × List MemPlace} {fuel : Nat}
    (hf : DataW.trod enc Try.prog W 0 (fun _ => true) true fuel 24 cs = some x) (hb : Rows.uptoBulk x.1 ≤ 1048576) :
    ∃ ad l c ns, cs = [.slice ad l c] ∧ ElemIn vNum W.heap.size W (.slice ad l c) ns ∧ ns.length + 1 ≤ Rows.uptoBulk x.1 ∧ ∀ y ∈ ns, y < 18446744073709551616 := by
  rcases open_ints Try.underlying24 Try.underlying22 (by kernel_rfl) hf with ⟨rfl, rfl⟩ | ⟨a, len, cap, zs, rfl, _, hl, hm, hz, rfl, hcell, hws⟩
  · exact ⟨none, 0, 0, [], rfl, ⟨none, 0, rfl, by simp, Or.inl rfl⟩, by simp [Rows.uptoBulk], by simp⟩
  · have hlen : zs.length = cap := by simpa using hz
    have hb2 : Rows.uptoBulk (H := H) (.slice (lits .u64 (zs.take len)) (lits .u64 (zs.drop len))) = (zs.take len).length + (zs.drop len).length + 1 := by
      rw [Rows.uptoBulk, bulk_lits, bulk_lits]
    simp only at hb ⊢
    rw [hb2] at hb ⊢
    have htl : (zs.take len).length = len := by rw [List.length_take]; omega
    refine ⟨some a, len, cap, (zs.take len).map Int.toNat, rfl, ⟨some a, cap, by rw [List.length_map, htl], by rw [List.length_map, htl]; omega, ?_⟩, by rw [List.length_map]; omega, ?_⟩
    · by_cases h0 : len = 0
      · left; subst h0; rfl
      · right
        have hc0 := hcell 0 (by omega)
        obtain ⟨b, off, spot⟩ := a
        have hspot : spot = none := by simpa [Addr.add] using World.cell?_spot hc0
        subst hspot
        refine ⟨b, off, rfl, ?_, ?_⟩
        · have := World.block_lt_of_cell? _ _ hc0
          simpa [Addr.add] using this
        · intro i y hi
          have hilt : i < len := by
            have := (List.getElem?_eq_some_iff.1 hi).1
            rw [List.length_map] at this
            omega
          have := hcell i (by omega)
          rw [add_plain] at this
          rw [this]
          have hz2 : zs[i]? = some (zs[i]'(by omega)) := List.getElem?_eq_getElem (by omega)
          rw [List.getElem?_map, List.getElem?_take, if_pos hilt, hz2] at hi
          have hy : y = (zs[i]'(by omega)).toNat := by simpa using hi.symm
          have hwf := bounds_u64 (hws (zs[i]'(by omega)) (List.getElem_mem _))
          rw [List.getD_eq_getElem?_getD, hz2, hy]
          show some (Value.int .u64 (zs[i]'(by omega))) = some (Value.int .u64 _)
          congr 2
          omega
    · intro y hy
      obtain ⟨z, hz1, rfl⟩ := List.mem_map.1 hy
      have := bounds_u64 (hws z (List.mem_of_mem_take hz1))
      omega

theorem Try.cellsStep : Try.prog.cellsOf 26 = 9 := by kernel_rfl
set_option maxRecDepth 100000 in
theorem open_step {H : Type} {enc : TypeId × Value → H} {W : World} {cs : List Value} {x : DataW H × List MemPlace} {fuel : Nat}
    (hf : DataW.trod enc Try.prog W 0 (fun _ => true) true fuel 26 cs = some x) (hb : Rows.uptoBulk x.1 ≤ 1048576) :
    ∃ t pa pl pc na nl nc, cs = [.int .i64 t.kd, .int .u64 t.n, .int .i64 t.i, .string t.s, .slice pa pl pc, .slice na nl nc, .int .i64 t.wd, .int .u64 t.m, .int .i64 t.bd] ∧
      ElemIn Value.string W.heap.size W (.slice pa pl pc) t.parts ∧ ElemIn vNum W.heap.size W (.slice na nl nc) t.ns ∧ wt t ≤ Rows.uptoBulk x.1 ∧ StepOK t := by
  obtain ⟨xs, n, rfl, rfl, hcl, hxl, hfi⟩ := DataW.trod_struct Try.underlying26 hf
  rw [Try.cellsStep] at hcl
  obtain ⟨a0, a1, a2, a3, a4, a5, a6, a7, a8, rfl⟩ := nine cs hcl
  obtain ⟨x0, x1, x2, x3, x4, x5, x6, x7, x8, rfl⟩ := nine xs hxl
  have c1 : Try.prog.cellsOf 3 = 1 := by kernel_rfl
  have c2 : Try.prog.cellsOf 22 = 1 := by kernel_rfl
  have c3 : Try.prog.cellsOf 2 = 1 := by kernel_rfl
  have c4 : Try.prog.cellsOf 9 = 1 := by kernel_rfl
  have c5 : Try.prog.cellsOf 23 = 1 := by kernel_rfl
  have c6 : Try.prog.cellsOf 24 = 1 := by kernel_rfl
  have f0 := hfi 0 _ rfl
  have f1 := hfi 1 _ rfl
  have f2 := hfi 2 _ rfl
  have f3 := hfi 3 _ rfl
  have f4 := hfi 4 _ rfl
  have f5 := hfi 5 _ rfl
  have f6 := hfi 6 _ rfl
  have f7 := hfi 7 _ rfl
  have f8 := hfi 8 _ rfl
  simp only [List.getElem_toArray, List.getElem_cons_succ, List.getElem_cons_zero, c1, c2, c3, c4, c5, c6, List.drop_succ_cons, List.drop_zero, List.take_succ_cons, List.take_zero, List.getElem?_cons_succ, List.getElem?_cons_zero] at f0 f1 f2 f3 f4 f5 f6 f7 f8
  clear hfi hf
  obtain ⟨kd, e0, g0, w0⟩ := DataW.trod_int Try.underlying3 f0
  obtain ⟨nn, e1, g1, w1⟩ := DataW.trod_int Try.underlying22 f1
  obtain ⟨i, e2, g2, w2⟩ := DataW.trod_int Try.underlying2 f2
  obtain ⟨s, e3, g3, w3⟩ := DataW.trod_string Try.underlying9 f3
  obtain ⟨wd, e6, g6, w6⟩ := DataW.trod_int Try.underlying3 f6
  obtain ⟨m, e7, g7, w7⟩ := DataW.trod_int Try.underlying22 f7
  obtain ⟨bd, e8, g8, w8⟩ := DataW.trod_int Try.underlying3 f8
  simp only [List.map_cons, List.map_nil, Rows.uptoBulk, Rows.uptoBulkAll] at hb
  obtain ⟨pa, pl, pc, ss, e4, h4, b4⟩ := open_texts_in f4 (by omega)
  obtain ⟨na, nl, nc, ns, e5, h5, b5, o5⟩ := open_nums_in f5 (by omega)
  subst g0; subst g1; subst g2; subst g3; subst g6; subst g7; subst g8
  simp only [List.cons.injEq, and_true] at e0 e1 e2 e3 e4 e5 e6 e7 e8
  subst e0; subst e1; subst e2; subst e3; subst e4; subst e5; subst e6; subst e7; subst e8
  have w1' := bounds_u64 w1
  have w7' := bounds_u64 w7
  have w0' := bounds_i64 w0
  have w2' := bounds_i64 w2
  have w6' := bounds_i64 w6
  have w8' := bounds_i64 w8
  have hbl := bytes_length s
  simp only [Rows.uptoBulk, hbl] at hb
  refine ⟨⟨kd, nn.toNat, i, s, ss, ns, wd, m.toNat, bd⟩, pa, pl, pc, na, nl, nc, ?_, h4, h5, ?_, ?_⟩
  · rw [Int.toNat_of_nonneg w1'.1, Int.toNat_of_nonneg w7'.1]
  · simp only [List.map_cons, List.map_nil, Rows.uptoBulk, Rows.uptoBulkAll, hbl, wt]
    omega
  · exact ⟨by simp only; omega, w2'.1, by simp only; omega, o5, by simp only [wt]; omega, w0'.1, by simp only; omega, by simp only; omega, w6'.1, by simp only; omega, w8'.1, by simp only; omega⟩

theorem bulk_mem {H : Type} {l : List (DataW H)} {d : DataW H} (h : d ∈ l) : Rows.uptoBulk d ≤ Rows.uptoBulkAll l := by
  induction l with
  | nil => cases h
  | cons x l ih =>
    rw [Rows.uptoBulkAll]
    rcases List.mem_cons.1 h with rfl | h
    · omega
    · have := ih h; omega
theorem bulk_sum {H : Type} (l : List Nat) (D : Nat → DataW H) (T : Nat → StepP) (h : ∀ i ∈ l, wt (T i) ≤ Rows.uptoBulk (D i)) : wtAll (l.map T) ≤ Rows.uptoBulkAll (l.map D) := by
  induction l with
  | nil => simp [wtAll]
  | cons x l ih =>
    have h1 := h x (by simp)
    have h2 := ih (fun i hi => h i (by simp [hi]))
    have e : wtAll ((x :: l).map T) = wt (T x) + wtAll (l.map T) := by simp [wtAll]
    rw [e, List.map_cons, Rows.uptoBulkAll]; omega


theorem nd_own : ownKnob Try.prog.godebug = none := by kernel_rfl
theorem nd_laidOut : laidOutB Try.prog = true := by kernel_rfl
set_option maxRecDepth 100000 in
theorem open_step1 {H : Type} {enc : TypeId × Value → H} {W : World} {v : Value} {d : DataW H} {pl : List MemPlace} {base : Nat}
    (hv : Value.okWide Try.prog W .any base 26 v) (h : DataW.Trod enc Try.prog W 0 (fun _ => true) true 26 v d pl) (hb : Rows.uptoBulk d ≤ 1048576) :
    ∃ (t : StepP) (pa : Option Addr) (pl pc : Nat) (na : Option Addr) (nl nc : Nat), v = stepV t.kd t.n t.i t.s pa pl pc na nl nc t.wd t.m t.bd ∧ t.s.size ≤ 1048576 := by
  obtain ⟨cs, rfl, hz⟩ := okWide_struct Try.underlying26 hv
  obtain ⟨fuel, hf⟩ := h
  obtain ⟨t, pa, pl', pc, na, nl, nc, e, _, _, _, hok⟩ := open_step (x := (d, pl)) (cs := cs.toList) hf hb
  refine ⟨t, pa, pl', pc, na, nl, nc, ?_, hok.size⟩
  obtain ⟨l⟩ := cs
  simp only at e
  rw [e]
set_option maxRecDepth 100000 in
theorem open_ns {H : Type} {enc : TypeId × Value → H} {W : World} {v : Value} {d : DataW H} {pl : List MemPlace} {base : Nat}
    (hv : Value.okWide Try.prog W .any base 24 v) (h : DataW.Trod enc Try.prog W 0 (fun _ => true) true 24 v d pl) (hb : Rows.uptoBulk d ≤ 1048576) :
    ∃ (a : Option Addr) (n c : Nat), v = .slice a n c ∧ n ≤ 1048576 := by
  obtain ⟨a0, len0, cap0, rfl⟩ := okWide_slice Try.underlying24 hv
  obtain ⟨fuel, hf⟩ := h
  obtain ⟨ad, l, c, ns, e, hin, hl, _⟩ := open_nums_in (x := (d, pl)) (cs := [.slice a0 len0 cap0]) hf hb
  obtain ⟨ad2, c2, e2, _, _⟩ := hin
  simp only [List.cons.injEq, and_true, Value.slice.injEq] at e e2
  have hl : ns.length + 1 ≤ Rows.uptoBulk d := hl
  exact ⟨a0, len0, cap0, rfl, by omega⟩
end Go.Proofs.Ytpcdpdagcigigaa
