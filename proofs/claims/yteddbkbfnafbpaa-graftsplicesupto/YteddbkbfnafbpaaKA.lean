/- piled over pairs. -/
import Derived.Test.YteddbkbfnafbpaaKA0
namespace Go.Proofs.Yteddbkbfnafbpaa
open Go.RowKit

/-- What the pairs weigh. -/
def pairsN (ps : List (ByteArray × ByteArray)) : Nat := (ps.map fun x => textN x.1.size + textN x.2.size).sum
/-- The pile: what weighs ahead of each place. -/
def pileN (ps : List (ByteArray × ByteArray)) (k : Nat) : List Nat := (List.range (k + 1)).map fun j => pairsN (ps.take j)
theorem pile_succ (ps : List (ByteArray × ByteArray)) (k : Nat) : pileN ps (k + 1) = pileN ps k ++ [pairsN (ps.take (k + 1))] := by
  unfold pileN; rw [List.range_succ (n := k + 1), List.map_append]; rfl
theorem pile_at (ps : List (ByteArray × ByteArray)) {k j : Nat} (h : j ≤ k) : (pileN ps k)[j]? = some (pairsN (ps.take j)) := by
  unfold pileN; rw [List.getElem?_map, List.getElem?_range (by omega)]; rfl
theorem pairs_succ {ps : List (ByteArray × ByteArray)} {k : Nat} {x : ByteArray × ByteArray} (h : ps[k]? = some x) : pairsN (ps.take (k + 1)) = pairsN (ps.take k) + (textN x.1.size + textN x.2.size) := by
  unfold pairsN; rw [List.take_add_one, h]; simp
theorem make_pile (w : World) (n : Nat) (hn : n ≤ 1048576) : ∃ W, (Instr.makeSlice 112 (.int .i64 1) (.int .i64 ((n : Int) + 1))).run Try.prog w = .ok (.slice (some ⟨w.heap.size, 0, none⟩) 1 (n + 1)) W ∧ W.ownsRow w.heap.size 3 1 (.slice (some ⟨w.heap.size, 0, none⟩) 1 (n + 1)) 1 [.int .i64 0] ∧ Same w W := by
  obtain ⟨i0, hi, hi0, hi1, hi2⟩ := info_parts Try.infoInt
  have hm := run_make (P := Try.prog) w 112 3 i0 _ Try.underlying112 hi hi0 .i64 .i64 1 ((n : Int) + 1) (by omega) (by omega) (by rw [hi2]; omega) (by omega)
  rw [show ((n : Int) + 1).toNat = n + 1 from by omega, hi1] at hm
  refine ⟨_, hm, ⟨rfl, Or.inr ⟨w.heap.size, n + 1, _, rfl, Nat.le_refl _, heap_alloc_new w _, by omega, by unfold maxLen; omega, size_madeCells _ _, ?_⟩⟩, (Fr.refl _ w).alloc _⟩
  show (madeCells #[Value.int .i64 0] _).toList.take _ = _
  rw [toList_madeCells_one, Nat.mul_one, Nat.mul_one, List.replicate_succ]; rfl
theorem text_le {n : Nat} (h : n ≤ 1048576) : textN n ≤ 2097152 := by have := (numN_le (n := n) (by omega)).2; unfold textN; omega
theorem pairs_le : ∀ (ps : List (ByteArray × ByteArray)), (∀ x ∈ ps, x.1.size ≤ 1048576 ∧ x.2.size ≤ 1048576) → pairsN ps ≤ ps.length * 4194304
  | [], _ => Nat.le_refl _
  | x :: ps, h => by
    have h1 := pairs_le ps (fun y hy => h y (List.mem_cons_of_mem _ hy))
    obtain ⟨h2, h3⟩ := h x List.mem_cons_self
    have h4 := text_le h2
    have h5 := text_le h3
    have : pairsN (x :: ps) = (textN x.1.size + textN x.2.size) + pairsN ps := by unfold pairsN; rw [List.map_cons, List.sum_cons]
    rw [this, List.length_cons]; omega
set_option maxRecDepth 100000 in
set_option maxHeartbeats 1000000 in
theorem piled_calls {pa : Option Addr} {pb po cp : Nat} {ps : List (ByteArray × ByteArray)} (w : World) (hr : PRow w pa pb po ps) (hn : ps.length ≤ 1048576) (hok : ∀ x ∈ ps, x.1.size ≤ 1048576 ∧ x.2.size ≤ 1048576) :
    Calls Try.prog 81 #[.slice pa ps.length cp, .func (.func 82) #[] #[]] w fun e w' => ∃ g c, e = .returned (.slice (some ⟨g, 0, none⟩) (ps.length + 1) c) ∧ w'.ownsRow w.heap.size 3 1 (.slice (some ⟨g, 0, none⟩) (ps.length + 1) c) (ps.length + 1) (icells (pileN ps ps.length)) ∧ Same w w' := by
  obtain ⟨W0, hm, own0, s0⟩ := make_pile w ps.length hn
  have HR : Hid (PRow w pa pb po ps) := hr
  have HK : Hid (∀ x ∈ ps, x.1.size ≤ 1048576 ∧ x.2.size ≤ 1048576) := hok
  have HP : Hid (∀ k v : ByteArray, k.size ≤ 1048576 → v.size ≤ 1048576 → ∀ W, Calls Try.prog 82 #[.agg #[.string k, .string v]] W fun e w' => e = .returned (.int .i64 (textN k.size + textN v.size : Nat)) ∧ Same W w') := fun k v h1 h2 W => pair_calls k v W h1 h2
  clear hr hok
  go_enter Try.func81, Try.ntmps81
  go_wp2_with fail
  clear hm
  go_loopg [5, 14] ps.length (fun g sv iv w2 => ∃ (k b c : Nat), sv = .slice (some ⟨b, 0, none⟩) (k + 1) c ∧ iv = .int .i64 (k : Int) ∧ k ≤ ps.length ∧ g = ps.length - k ∧ Hid (w2.ownsRow w.heap.size 3 1 (.slice (some ⟨b, 0, none⟩) (k + 1) c) (k + 1) (icells (pileN ps k))) ∧ Hid (Same w w2))
  case atStart => exact ⟨0, w.heap.size, ps.length + 1, rfl, rfl, by omega, rfl, own0, s0⟩
  case round =>
    obtain ⟨k, b, c, rfl, rfl, hk, hg, HO, HS⟩ := hrel
    by_cases hgo : k < ps.length
    · obtain ⟨x, hx⟩ : ∃ x, ps[k]? = some x := ⟨_, List.getElem?_eq_getElem hgo⟩
      obtain ⟨rfl, _⟩ := HR.out.place (fun h => by rw [h] at hgo; simp at hgo)
      have c0 := HS.out.keep (HR.out.cells k x hx).1
      have c1 := HS.out.keep (HR.out.cells k x hx).2
      obtain ⟨hk1, hv1⟩ := HK.out x (List.mem_of_getElem? hx)
      have HE : Hid (pairsN (ps.take (k + 1)) = pairsN (ps.take k) + (textN x.1.size + textN x.2.size)) := pairs_succ hx
      have HI : Hid (IAt wr b 0 (pileN ps k)) := own_iat HO.out
      have hle : pairsN (ps.take k) ≤ 4398046511104 := by
        have := pairs_le (ps.take k) (fun y hy => HK.out y (List.mem_of_mem_take hy))
        rw [List.length_take] at this; omega
      obtain ⟨xk, xv⟩ := x
      simp only at c0 c1 hk1 hv1 HE
      have hl1 := text_le hk1
      have hl2 := text_le hv1
      have HC := HP.out xk xv hk1 hv1
      have HC : Hid (∀ W, Calls Try.prog 82 #[.agg #[.string xk, .string xv]] W fun e w' => e = .returned (.int .i64 (textN xk.size + textN xv.size : Nat)) ∧ Same W w') := HC
      have HI1 : Hid (∀ W, IAt W b 0 (pileN ps k) → W.cell? ⟨b, k, none⟩ = some (.int .i64 (pairsN (ps.take k) : Int))) := fun W h => by
        have := h k _ (pile_at ps (Nat.le_refl k))
        rw [Nat.zero_add] at this; exact this
      generalize hy : textN xk.size + textN xv.size = y at *
      have hy2 : y ≤ 4194304 := by omega
      have HX : Hid (pileN ps (k + 1) = pileN ps k ++ [pairsN (ps.take k) + y]) := by
        show _ = _
        rw [pile_succ, HE.out]
      generalize pairsN (ps.take k) = z at *
      clear hx hy hl1 hl2 HE
      go_wp2_with fail
      obtain ⟨V, hV⟩ : ∃ V, V = wr.alloc (.cells #[.string xk, .string xv] 41) := ⟨_, rfl⟩
      rw [← hV]
      have s1 : Same wr V := by rw [hV]; exact (Fr.refl _ wr).alloc _
      have a0 : V.cell? ⟨wr.heap.size, 0, none⟩ = some (.string xk) := by rw [hV]; simp
      have a1 : V.cell? ⟨wr.heap.size, 1, none⟩ = some (.string xv) := by rw [hV]; simp
      have HO1 : Hid (V.ownsRow w.heap.size 3 1 (.slice (some ⟨b, 0, none⟩) (k + 1) c) (k + 1) (icells (pileN ps k))) := by rw [hV]; exact HO.out.alloc _
      have d0 : Same V V.drew := Fr.drew (Fr.refl _ V)
      have HSV : Hid (∀ W, Same V W → W.cell? ⟨b, k, none⟩ = some (.int .i64 (z : Int)) ∧ W.cell? ⟨wr.heap.size, 0, none⟩ = some (.string xk) ∧ W.cell? ⟨wr.heap.size, 1, none⟩ = some (.string xv)) := fun W h => ⟨h.keep (HI1.out _ (HI.out.same s1)), h.keep a0, h.keep a1⟩
      clear hV c0 c1 a0 a1
      have k1 := HSV.out _ d0
      obtain ⟨m, hm⟩ : ∃ m, m = k + 1 := ⟨_, rfl⟩
      rw [← hm] at HO1 ⊢
      have bk0 : (0 : Int) ≤ (k : Int) := by omega
      have bk1 : (k : Int) < (m : Int) := by omega
      have hmb : m + 1 ≤ 1099511627776 := by omega
      have HM : Hid (m = k + 1) := hm
      clear hm
      have hb3 : w.heap.size ≤ b := (own_ge HO1.out).1
      have hb4 : b < wr.heap.size := (own_ge HO.out).2
      have HN : Hid (∀ (W1 : World) (o : Array Value), o = #[.int .i64 (IntKind.i64.wrap ((z : Int) + (y : Int)))] → (W1.alloc (.cells o 3)).cell? ⟨W1.heap.size, 0, none⟩ = some (.int .i64 ((z + y : Nat) : Int))) := fun W1 o ho => by
        subst ho; rw [cell_of_row _ _ _ _ _ _ (heap_alloc_new W1 _), show IntKind.i64.wrap ((z : Int) + (y : Int)) = ((z + y : Nat) : Int) from by rw [IntKind.wrap_i64]; omega]; rfl
      have HW : Hid (∀ W, Same V W → W.ownsRow w.heap.size 3 1 (.slice (some ⟨b, 0, none⟩) m c) m (icells (pileN ps k))) := fun W h => own_frameB HO1.out h (fun _ _ h => h)
      have HF : Hid (∀ (W1 W5 : World) (o : Obj), Same V W1 → (W1.alloc o).grownBy W5 (some b) → IAt W5 b 0 (pileN ps k) → (W5.cell? ⟨b, k, none⟩ = some (.int .i64 (z : Int)) ∧ W5.cell? ⟨wr.heap.size, 0, none⟩ = some (.string xk) ∧ W5.cell? ⟨wr.heap.size, 1, none⟩ = some (.string xv)) ∧ Same w W5) := fun W1 W5 o h1 h2 h3 => by
        have f1 : Fr (fun i => i = b) V W5 := Fr.grown ((h1.mono (fun _ _ h => h.elim)).alloc o) h2 (fun i hi _ => by injection hi with hi; exact hi.symm)
        obtain ⟨t0, t1, t2⟩ := HSV.out V (Fr.refl _ V)
        refine ⟨⟨HI1.out _ h3, ?_, ?_⟩, Fr.grown ((HS.out.trans (s1.trans h1)).alloc o) h2 (fun i hi hl => by injection hi with hi; omega)⟩
        · exact (f1.cell (World.block_lt_of_cell? _ _ t1) (by simp only; omega)).trans t1
        · exact (f1.cell (World.block_lt_of_cell? _ _ t2) (by simp only; omega)).trans t2
      have HZ : Hid (∀ W1, Same V W1 → ∀ o, w.heap.size ≤ (W1.alloc o).heap.size) := fun W1 h o => by
        have := (HS.out.trans (s1.trans h)).size
        simp; omega
      go_region_held3 (fun W => W.cell? ⟨b, k, none⟩ = some (.int .i64 (z : Int)) ∧ W.cell? ⟨wr.heap.size, 0, none⟩ = some (.string xk) ∧ W.cell? ⟨wr.heap.size, 1, none⟩ = some (.string xv)) (first | exact k3.1 | go_keep | exact k2 | exact k1)
        (first | (go_at_call 82; refine (HC.out _).mono ?_; rintro e W1 ⟨rfl, q1⟩; have u1 := Same.trans d0 q1; have k2 := HSV.out _ u1) | (refine step_append_kept _ (by rfl) _ _ (by rfl) w.heap.size b m c (pileN ps k) (by rfl) ((HW.out _ u1).alloc _) ⟨W1.heap.size, 0, none⟩ 1 (z + y) (by rfl) (HN.out _ _ rfl) hmb (HZ.out _ u1 _) ?_; intro g5 cap5 W5 hown5 hgrow5 hu5; have k3 := HF.out _ _ _ u1 hgrow5 hu5))
      have HO5 : Hid (W5.ownsRow w.heap.size 3 1 (.slice (some ⟨g5, 0, none⟩) (m + 1) cap5) (m + 1) (icells (pileN ps (k + 1)))) := by rw [HX.out]; exact hown5
      rw [HM.out] at HO5 ⊢
      have s5 := k3.2
      clear hown5 hgrow5 hu5 k1 k2 k3 HN HW HF HZ HSV HO1 HI HI1 HX
      go_wp2_with fail
      go_roundg (ps.length - (k + 1))
      case measure => omega
      case rel => exact ⟨k + 1, g5, cap5, rfl, by go_num, by omega, rfl, HO5, s5⟩
    · obtain rfl : k = ps.length := by omega
      go_wp2_with fail
      go_ret
      exact ⟨b, c, rfl, HO.out, HS.out⟩
end Go.Proofs.Yteddbkbfnafbpaa
