/-
  A script of calls that came in, opened.
-/
import Derived.Test.YthkhfblpdekjhaaDoorSHI
import Derived.Test.YthkhfblpdekjhaaDoorSU
import Derived.Deep.Slices
namespace Go.Proofs.YthkhfblpdekjhaaDoor
open Go.ChangeShapes Go.WideShapes Go.ChangeAt Go.RowKit

theorem flat_sumB (ss : List ByteArray) : (flat ss).length ≤ sumB ss := by
  induction ss with
  | nil => exact Nat.zero_le _
  | cons s ss ih =>
    have e : flat (s :: ss) = s.data.toList ++ flat ss := by simp [flat]
    rw [e, List.length_append, sumB_cons, bytes_length]; omega
instance : Inhabited ActP := ⟨⟨0, 0, 0, [], none, 0, 0, 0⟩⟩
def wtA (t : ActP) : Nat := sumB t.ss + 1
def wtAs (l : List ActP) : Nat := (l.map wtA).sum
theorem wtAs_cons (t : ActP) (l : List ActP) : wtAs (t :: l) = wtA t + wtAs l := by simp [wtAs]
theorem wtAs_len (l : List ActP) : l.length ≤ wtAs l := by
  induction l with
  | nil => exact Nat.zero_le _
  | cons t l ih => rw [wtAs_cons, List.length_cons, wtA]; omega
theorem wtAs_tot (l : List ActP) : totA l ≤ wtAs l := by
  induction l with
  | nil => exact Nat.zero_le _
  | cons t l ih =>
    have e : totA (t :: l) = (flat t.ss).length + totA l := by simp [totA]
    have := flat_sumB t.ss
    rw [e, wtAs_cons, wtA]; omega
theorem Tryd.cellsAct : Tryd.prog.cellsOf 29 = 4 := by kernel_rfl
theorem four_of {α : Type} (l : List α) (h : l.length = 4) : ∃ a b c d, l = [a, b, c, d] := by
  match l, h with
  | [a, b, c, d], _ => exact ⟨a, b, c, d, rfl⟩
set_option maxRecDepth 100000 in
theorem open_act {H : Type} {enc : TypeId × Value → H} {W : World} {cs : List Value} {x : DataW H × List MemPlace} {fuel : Nat}
    (hf : DataW.trod enc Tryd.prog W 0 (fun _ => true) true fuel 29 cs = some x) :
    ∃ t : ActP, cs = [.int .i64 t.on, .int .i64 t.to, .int .i64 t.kind, .slice t.pa t.ss.length t.pc] ∧ SAt W t.pa t.pb t.po t.ss ∧ wtA t ≤ Rows.uptoBulk x.1 := by
  obtain ⟨xs, n, rfl, rfl, hcl, hxl, hfi⟩ := DataW.trod_struct Tryd.underlying29 hf
  rw [Tryd.cellsAct] at hcl
  obtain ⟨a0, a1, a2, a3, rfl⟩ := four_of cs hcl
  obtain ⟨x0, x1, x2, x3, rfl⟩ := four_of xs hxl
  have c1 : Tryd.prog.cellsOf 3 = 1 := by kernel_rfl
  have c5 : Tryd.prog.cellsOf 27 = 1 := by kernel_rfl
  have f0 := hfi 0 _ rfl
  have f1 := hfi 1 _ rfl
  have f2 := hfi 2 _ rfl
  have f3 := hfi 3 _ rfl
  simp only [List.getElem_toArray, List.getElem_cons_succ, List.getElem_cons_zero, c1, c5, List.drop_succ_cons, List.drop_zero, List.take_succ_cons, List.take_zero, List.getElem?_cons_succ, List.getElem?_cons_zero] at f0 f1 f2 f3
  clear hfi hf
  obtain ⟨on, e0, g0, _⟩ := DataW.trod_int Tryd.underlying3 f0
  obtain ⟨to, e1, g1, _⟩ := DataW.trod_int Tryd.underlying3 f1
  obtain ⟨kd, e2, g2, _⟩ := DataW.trod_int Tryd.underlying3 f2
  obtain ⟨ss, pa, pb, po, pc, e3, h3, b3⟩ := open_texts_in f3
  subst g0; subst g1; subst g2
  simp only [List.cons.injEq, and_true] at e0 e1 e2 e3
  subst e0; subst e1; subst e2; subst e3
  refine ⟨⟨on, to, kd, ss, pa, pb, po, pc⟩, rfl, h3, ?_⟩
  simp only [List.map_cons, List.map_nil, Rows.uptoBulk, Rows.uptoBulkAll, wtA]
  omega
theorem bulk_sum {H : Type} (l : List Nat) (D : Nat → DataW H) (T : Nat → ActP) (h : ∀ i ∈ l, wtA (T i) ≤ Rows.uptoBulk (D i)) : wtAs (l.map T) ≤ Rows.uptoBulkAll (l.map D) := by
  induction l with
  | nil => exact Nat.zero_le _
  | cons x l ih =>
    have h1 := h x (by simp)
    have h2 := ih (fun i hi => h i (by simp [hi]))
    rw [List.map_cons, List.map_cons, wtAs_cons, Rows.uptoBulkAll]; omega
theorem wtAs_mem {l : List ActP} {t : ActP} (h : t ∈ l) : wtA t ≤ wtAs l := by
  induction l with
  | nil => cases h
  | cons x l ih =>
    rw [wtAs_cons]
    rcases List.mem_cons.1 h with rfl | h
    · omega
    · have := ih h; omega

set_option maxRecDepth 100000 in
/-- A list of calls that came in. -/
theorem open_acts {H : Type} {enc : TypeId × Value → H} {W : World} {v : Value} {d : DataW H} {pl : List MemPlace} {base : Nat}
    (hv : Value.okWide Tryd.prog W .any base 22 v) (h : DataW.Trod enc Tryd.prog W 0 (fun _ => true) true 22 v d pl) (hb : Rows.uptoBulk d ≤ 1048576) :
    ∃ xs pa sb so pc, v = .slice pa (xs : List ActP).length pc ∧ ScrAt W pa sb so xs ∧ wtAs xs ≤ Rows.uptoBulk d := by
  obtain ⟨a0, len, cap, rfl⟩ := okWide_slice Tryd.underlying22 hv
  obtain ⟨fuel, hf⟩ := h
  rcases Deep.open_slice Tryd.underlying22 hf with ⟨hcs, hx⟩ | ⟨a, len', cap', mm, nn, D, Pl, hcs, _, hl, hm, hmm, hx, hel⟩
  · simp [Value.cells] at hcs
    obtain ⟨rfl, rfl, rfl⟩ := hcs
    exact ⟨[], none, 0, 0, 0, rfl, ⟨fun e => absurd rfl e, fun j s hj => by simp at hj⟩, Nat.zero_le _⟩
  · simp [Value.cells] at hcs
    obtain ⟨rfl, rfl, rfl⟩ := hcs
    simp only [Prod.mk.injEq] at hx
    obtain ⟨rfl, _⟩ := hx
    have hmc : mm = cap := by simpa using hmm
    subst hmc
    rw [Rows.uptoBulk] at hb ⊢
    rw [Tryd.cellsAct] at hel
    obtain ⟨T, hT⟩ := Deep.choose_lt (α := ActP) (n := len) (p := fun i t => (∃ cs, W.cells? 0 (a.add (i * 4)) 4 = some cs ∧ cs = [.int .i64 t.on, .int .i64 t.to, .int .i64 t.kind, .slice t.pa t.ss.length t.pc]) ∧ SAt W t.pa t.pb t.po t.ss ∧ wtA t ≤ Rows.uptoBulk (D i)) (fun i hi => by
        obtain ⟨cs', h1, h2⟩ := hel i (by omega)
        obtain ⟨t, r1, r2, r3⟩ := open_act h2
        exact ⟨t, ⟨cs', h1, r1⟩, r2, r3⟩)
    have hsum := bulk_sum (List.range len) D T (fun i hi => (hT i (List.mem_range.1 hi)).2.2)
    have hlen : ((List.range len).map T).length = len := by simp
    by_cases h0 : len = 0
    · subst h0
      exact ⟨[], some a, 0, 0, mm, rfl, ⟨fun e => absurd rfl e, fun j s hj => by simp at hj⟩, Nat.zero_le _⟩
    · obtain ⟨⟨cs0, hc0, _⟩, _⟩ := hT 0 (by omega)
      obtain ⟨_, hcl0, hce0⟩ := World.cells?_some hc0
      have hc0 := hce0 0 (by omega)
      rw [List.getElem?_eq_getElem (by omega)] at hc0
      obtain ⟨b, off, spot⟩ := a
      have hspot : spot = none := by simpa [Addr.add] using World.cell?_spot hc0
      subst hspot
      refine ⟨(List.range len).map T, some ⟨b, off, none⟩, b, off, mm, by rw [hlen], ⟨fun _ => rfl, ?_⟩, by omega⟩
      intro k t hk
      have hmem := List.mem_of_getElem? hk
      have hk1 : k < len := by
        have := (List.getElem?_eq_some_iff.1 hk).1
        omega
      have hkt : t = T k := by
        rw [List.getElem?_map, List.getElem?_range hk1] at hk
        simpa using hk.symm
      have hwt := wtAs_mem hmem
      have hsl := sumB_len t.ss
      have hwd : wtA t = sumB t.ss + 1 := rfl
      subst hkt
      obtain ⟨⟨cs, hc1, hc2⟩, r2, _⟩ := hT k hk1
      obtain ⟨_, _, hce⟩ := World.cells?_some hc1
      subst hc2
      refine ⟨?_, ?_, ?_, ?_, r2, by omega⟩
      · have := hce 0 (by omega)
        rw [Addr.add_mid, Addr.add_mid] at this
        exact this
      · have := hce 1 (by omega)
        rw [Addr.add_mid, Addr.add_mid] at this
        exact this
      · have := hce 2 (by omega)
        rw [Addr.add_mid, Addr.add_mid] at this
        exact this
      · have := hce 3 (by omega)
        rw [Addr.add_mid, Addr.add_mid] at this
        exact this
end Go.Proofs.YthkhfblpdekjhaaDoor
