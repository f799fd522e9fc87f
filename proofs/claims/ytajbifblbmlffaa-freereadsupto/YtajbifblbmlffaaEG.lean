/- free: ownBatch, loosen. -/
import Derived.Test.YtajbifblbmlffaaEF
namespace Go.Proofs.Ytajbifblbmlffaa
open Go.RowKit Go.Maps

/-- What a batch's numbers, its own among them, make of the owned ones. -/
def obD (p q : Int) (pages : Nat) (D : SetD) (pg : Nat) (ns : List Nat) : Bool × SetD :=
  if fitsN p q ns pages = false then (false, D) else if (ownD pages D [pg]).1 = false then (ownD pages D [pg]) else ownD pages (ownD pages D [pg]).2 ns
theorem NRow.fr {w w' : World} {S : Nat → Prop} {pa : Option Addr} {pb po : Nat} {ns : List Nat} (h : NRow w pa pb po ns) (f : Fr S w w') (hb : ns ≠ [] → ¬ S pb) : NRow w' pa pb po ns :=
  ⟨fun e => ⟨(h.place e).1, Nat.lt_of_lt_of_le (h.place e).2 f.size⟩, fun j x hx => by
    have he : ns ≠ [] := by intro e; rw [e] at hx; simp at hx
    exact (f.cell (h.place he).2 (hb he)).trans (h.cells j x hx)⟩
theorem NRow.neSet {w : World} {pa : Option Addr} {pb po b n : Nat} {ns : List Nat} {D : SetD} (h : NRow w pa pb po ns) (s : SetAt w b n D) (he : ns ≠ []) : pb ≠ b := fun e => by
  obtain ⟨es, cl, h1, _⟩ := s
  obtain ⟨x, xs, rfl⟩ := List.exists_cons_of_ne_nil he
  have hc := h.cells 0 x rfl
  rw [e] at hc
  simp [World.cell?, h1] at hc
theorem nrow_one {w : World} {x : Nat} {t : TypeId} (g : Nat) (fr : Nat × Nat) (h : w.heap[g]? = some (.cells #[.int .u32 (x : Int)] t fr)) : NRow w (some ⟨g, 0, none⟩) g 0 [x] :=
  ⟨fun _ => ⟨rfl, lt_of_heap h⟩, fun j y hy => by
    match j, hy with
    | 0, hy =>
      simp at hy
      subst hy
      exact (cell_of_row _ _ _ _ _ _ h).trans rfl
    | j + 1, hy => simp at hy⟩
set_option maxRecDepth 100000 in
set_option maxHeartbeats 1000000 in
theorem fownBatch_calls {p q : Int} {pa : Option Addr} {pb po cp pages b m pg : Nat} {ns : List Nat} {D : SetD} (w : World) (hr : NRow w pa pb po ns) (hm : SetAt w b m D) (hn : ns.length ≤ 4000000) (hm2 : m ≤ 4000000) (hns : ∀ x ∈ ns, x < 4294967296) (hpg : pg < 4294967296) :
    Calls Try.prog 13 #[.agg #[.int .i64 p, .int .i64 q, .int .u32 (pages : Int), .map (some b)], .agg #[.int .u32 (pg : Int), .slice pa ns.length cp]] w fun e w' => e = .returned (.bool (obD p q pages D pg ns).1) ∧ SetAt w' b (m + 1 + ns.length) (obD p q pages D pg ns).2 ∧ Fr (fun k => k = b) w w' := by
  have HFt : Hid (∀ W, Same w W → Calls Try.prog 26 #[.agg #[.int .i64 p, .int .i64 q], .slice pa ns.length cp, .int .u32 (pages : Int)] W fun e w' => e = .returned (.bool (fitsN p q ns pages)) ∧ Same W w') := fun W s => ffits_calls (pages := pages) W (hr.same s) (by omega)
  have HO1 : Hid (∀ W g, Same w W → W.heap[g]? = some (.cells #[.int .u32 (pg : Int)] 28 (0, 0)) → Calls Try.prog 27 #[.agg #[.int .i64 p, .int .i64 q, .int .u32 (pages : Int), .map (some b)], .slice (some ⟨g, 0, none⟩) 1 1] W fun e w' => e = .returned (.bool (ownD pages D [pg]).1) ∧ SetAt w' b (m + 1) (ownD pages D [pg]).2 ∧ Fr (fun k => k = b) W w') := fun W g s hg => fown_calls (ns := [pg]) W (nrow_one g _ hg) (hm.fr s (fun f => f)) (by simp) (by omega) (by simp; exact hpg)
  have HO2 : Hid (∀ W D' , Fr (fun k => k = b) w W → SetAt W b (m + 1) D' → Calls Try.prog 27 #[.agg #[.int .i64 p, .int .i64 q, .int .u32 (pages : Int), .map (some b)], .slice pa ns.length cp] W fun e w' => e = .returned (.bool (ownD pages D' ns).1) ∧ SetAt w' b (m + 1 + ns.length) (ownD pages D' ns).2 ∧ Fr (fun k => k = b) W w') := fun W D' f h => fown_calls W (hr.fr f (fun he => hr.neSet hm he)) h (by omega) (by omega) hns
  have HMM : Hid (SetAt w b m D) := hm
  obtain ⟨V, hV⟩ : ∃ V, V = (w.alloc (.cells #[.int .i64 p, .int .i64 q, .int .u32 (pages : Int), .map (some b)] 48)).alloc (.cells #[.int .u32 (pg : Int), .slice pa ns.length cp] 53) := ⟨_, rfl⟩
  have sx : Same w V := by rw [hV]; exact ((Fr.refl _ w).alloc _).alloc _
  have r0 : V.heap[w.heap.size]? = some (.cells #[.int .i64 p, .int .i64 q, .int .u32 (pages : Int), .map (some b)] 48 (0, 0)) := by rw [hV]; exact (((Fr.refl (fun _ => False) (w.alloc (.cells #[.int .i64 p, .int .i64 q, .int .u32 (pages : Int), .map (some b)] 48))).alloc _).block _ (by simp) (fun f => f)).trans (heap_alloc_new w _)
  have r1 : V.heap[w.heap.size + 1]? = some (.cells #[.int .u32 (pg : Int), .slice pa ns.length cp] 53 (0, 0)) := by
    rw [hV]
    have := heap_alloc_new (w.alloc (.cells #[.int .i64 p, .int .i64 q, .int .u32 (pages : Int), .map (some b)] 48)) (.cells #[.int .u32 (pg : Int), .slice pa ns.length cp] 53)
    simpa using this
  have HC : Hid (∀ W, Fr (fun k => k = b) V W → (W.cell? ⟨w.heap.size, 0, none⟩ = some (.int .i64 p) ∧ W.cell? ⟨w.heap.size, 1, none⟩ = some (.int .i64 q) ∧ W.cell? ⟨w.heap.size, 2, none⟩ = some (.int .u32 (pages : Int)) ∧ W.cell? ⟨w.heap.size, 3, none⟩ = some (.map (some b))) ∧ W.cell? ⟨w.heap.size + 1, 0, none⟩ = some (.int .u32 (pg : Int)) ∧ W.cell? ⟨w.heap.size + 1, 1, none⟩ = some (.slice pa ns.length cp)) := fun W f => by
    have hb := hm.lt
    have e0 := (f.block _ (lt_of_heap r0) (by omega)).trans r0
    have e1 := (f.block _ (lt_of_heap r1) (by omega)).trans r1
    exact ⟨⟨(cell_of_row _ _ _ _ _ _ e0).trans rfl, (cell_of_row _ _ _ _ _ _ e0).trans rfl, (cell_of_row _ _ _ _ _ _ e0).trans rfl, (cell_of_row _ _ _ _ _ _ e0).trans rfl⟩, (cell_of_row _ _ _ _ _ _ e1).trans rfl, (cell_of_row _ _ _ _ _ _ e1).trans rfl⟩
  obtain ⟨⟨a0, a1, a2, a3⟩, b0, b1⟩ := HC.out V (Fr.refl _ V)
  clear hr hns hpg r0 r1 hm
  rw [hV] at a0 a1 a2 a3 b0 b1
  go_enter Try.func13, Try.ntmps13
  go_wp2_with fail
  rw [← hV]
  clear hV a0 a1 a2 a3 b0 b1
  refine (HFt.out _ sx).mono ?_
  rintro e W0 ⟨rfl, s0⟩
  cases htb : fitsN p q ns pages with
  | false =>
    have hr : Hid (obD p q pages D pg ns = (false, D)) := by show _ = _; unfold obD; rw [htb]; rfl
    go_wp2_with fail
    go_ret
    exact ⟨by rw [hr.out]; rfl, by rw [hr.out]; exact (HMM.out.fr (sx.trans s0) (fun f => f)).more (by omega), (sx.trans s0).mono (fun _ _ e => e.elim)⟩
  | true =>
    have HT : Hid (obD p q pages D pg ns = if (ownD pages D [pg]).1 = false then (ownD pages D [pg]) else ownD pages (ownD pages D [pg]).2 ns) := by show _ = _; unfold obD; rw [htb]; rfl
    have t0 := sx.trans s0
    obtain ⟨⟨a0, a1, a2, a3⟩, b0, b1⟩ := HC.out W0 (s0.mono (fun _ _ e => e.elim))
    obtain ⟨X, hX⟩ : ∃ X, X = W0.alloc (.cells #[.int .u32 (pg : Int)] 28) := ⟨_, rfl⟩
    have gx := heap_alloc_new W0 (.cells #[.int .u32 (pg : Int)] 28)
    rw [← hX] at gx
    have HX : Hid (Same V X ∧ Same w X) := ⟨by rw [hX]; exact Fr.alloc s0 _, by rw [hX]; exact Fr.alloc t0 _⟩
    have HGX : Hid (X.heap[W0.heap.size]? = some (.cells #[.int .u32 (pg : Int)] 28 (0, 0))) := gx
    clear gx htb
    go_wp2_with fail
    rw [← hX]
    clear hX a0 a1 a2 a3 b0 b1
    refine (HO1.out _ _ HX.out.2 HGX.out).mono ?_
    rintro e W1 ⟨rfl, m1, f1⟩
    have HF1 : Hid (Fr (fun k => k = b) V W1 ∧ Fr (fun k => k = b) w W1) := ⟨Fr.trans (HX.out.1.mono (fun _ _ e => e.elim)) f1 (fun _ _ e => e), Fr.trans (HX.out.2.mono (fun _ _ e => e.elim)) f1 (fun _ _ e => e)⟩
    have HM1 : Hid (SetAt W1 b (m + 1) (ownD pages D [pg]).2) := m1
    clear f1 m1
    obtain ⟨⟨a0, a1, a2, a3⟩, b0, b1⟩ := HC.out W1 HF1.out.1
    cases hob : (ownD pages D [pg]).1 with
    | false =>
      have hr : Hid (obD p q pages D pg ns = (false, (ownD pages D [pg]).2)) := by
        show _ = _
        rw [HT.out, hob, if_pos rfl]
        exact Prod.ext hob rfl
      go_wp2_with fail
      go_ret
      exact ⟨by rw [hr.out]; rfl, by rw [hr.out]; exact HM1.out.more (by omega), HF1.out.2⟩
    | true =>
      have hr : Hid (obD p q pages D pg ns = ownD pages (ownD pages D [pg]).2 ns) := by show _ = _; rw [HT.out, hob]; rfl
      clear hob
      go_wp2_with fail
      refine (HO2.out _ _ HF1.out.2 HM1.out).mono ?_
      rintro e W2 ⟨rfl, m2, f2⟩
      go_wp2_with fail
      go_ret
      exact ⟨by rw [hr.out]; rfl, by rw [hr.out]; exact m2, Fr.trans HF1.out.2 f2 (fun _ _ e => e)⟩
end Go.Proofs.Ytajbifblbmlffaa
