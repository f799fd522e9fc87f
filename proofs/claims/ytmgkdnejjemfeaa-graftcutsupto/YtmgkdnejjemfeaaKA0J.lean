/- Numbers in rows; one number more, and the old row's cells are as they were. (SRE for numbers of 64 bits.) -/
import Derived.Test.YtmgkdnejjemfeaaK9
import Derived.Deep.RegionHeld3
import Derived.Deep.RegionLaw
import Derived.Deep.DrawnRows
namespace Go.Proofs.Ytmgkdnejjemfeaa
open Go.RowKit

def icells (l : List Nat) : List Value := l.map fun x : Nat => Value.int .i64 (x : Int)
theorem icells_append (a b : List Nat) : icells (a ++ b) = icells a ++ icells b := by simp [icells]
theorem Try.infoInt : (Try.prog.info? 3).map (fun i => (i.zero, i.size, i.bytes)) = some (some (.int .i64 0), 1, 8) := by kernel_rfl
/-- Words in a row. -/
def IAt (w : World) (g o : Nat) (l : List Nat) : Prop := ∀ (j : Nat) (x : Nat), l[j]? = some x → w.cell? ⟨g, o + j, none⟩ = some (.int .i64 (x : Int))
theorem IAt.same {w w' : World} {g o : Nat} {l : List Nat} (h : IAt w g o l) (s : Same w w') : IAt w' g o l := fun j x hx => s.keep (h j x hx)
theorem own_iat {w : World} {B g cap n : Nat} {l : List Nat} (h : w.ownsRow B 3 1 (.slice (some ⟨g, 0, none⟩) n cap) n (icells l)) : IAt w g 0 l := by
  intro j x hx
  have := h.cells (g := g) rfl j (.int .i64 (x : Int)) (by simp only [icells, List.getElem?_map, hx]; rfl)
  rw [Addr.add_mid] at this
  exact this
theorem run_append_kept (w : World) (ty : TypeId) (B g n cap : Nat) (L : List Nat) (hown : w.ownsRow B 3 1 (.slice (some ⟨g, 0, none⟩) n cap) n (icells L)) (ad : Addr) (c : Nat) (x : Nat) (hx : w.cell? ad = some (.int .i64 (x : Int))) (hb : n + 1 ≤ 1099511627776) (hbase : B ≤ w.heap.size) :
    ∃ g' cap' w', (Builtin.append_ #[79, 79] ty #[.slice (some ⟨g, 0, none⟩) n cap, .slice (some ad) 1 c]).run Try.prog w = .ok (.slice (some ⟨g', 0, none⟩) (n + 1) cap') w' ∧ w'.ownsRow B 3 1 (.slice (some ⟨g', 0, none⟩) (n + 1) cap') (n + 1) (icells (L ++ [x])) ∧ w.grownBy w' (some g) ∧ IAt w' g 0 L := by
  obtain ⟨i0, hi, hi0, hi1, hi2⟩ := info_parts Try.infoInt
  have hnews : ∀ j u, [Value.int .i64 (x : Int)][j]? = some u → w.cell? (ad.add j) = some u := by
    intro j u hu
    cases j with
    | zero => simp at hu; subst hu; have : ad.add 0 = ad := by unfold Addr.add; split <;> simp_all
              rw [this]; exact hx
    | succ j => simp at hu
  have h1 : ∀ u ∈ [Value.int .i64 (x : Int)], u.oneCell' = true := by intro u hu; simp at hu; subst hu; rfl
  have hmx : n + 1 ≤ maxLen := by unfold maxLen; omega
  obtain ⟨g', cap', w', hr, ho, hg, _, _⟩ := run_append_lies (P := Try.prog) w 79 ty B 3 i0 (.int .i64 0) 1 8 Try.underlying79 hi hi0 hi1 hi2 rfl (by decide) _ n (icells L) hown ad 1 c [.int .i64 (x : Int)] rfl hnews h1 (by decide) hmx (by omega) hbase w.heap.size rfl
  refine ⟨g', cap', w', hr, by rw [icells_append]; exact ho, hg, ?_⟩
  have hu := own_iat hown
  obtain ⟨hlen, hn | ⟨g2, cap2, cur, hv, _, hh, hnc, hcm, hcs, htk⟩⟩ := hown
  · exact absurd hn.1 (by simp)
  · injection hv with e1 _ e3
    injection e1 with e1
    injection e1 with e1
    subst e1 e3
    by_cases hroom : n + 1 ≤ cap
    · have hr2 := run_append_room (P := Try.prog) w 79 ty 3 i0 Try.underlying79 hi g n cap cur hh ad 1 c [.int .i64 (x : Int)] (by rw [hi1]; rfl) hnews h1 hroom (by rw [hi1]; simp; omega)
      rw [hr] at hr2
      injection hr2 with e _
      injection e with e _ _
      injection e with e
      injection e with e
      subst e
      have := own_iat (l := L ++ [x]) (by rw [icells_append]; exact ho)
      intro j y hy
      exact this j y (by rw [List.getElem?_append_left (List.getElem?_eq_some_iff.1 hy).1]; exact hy)
    · have holds : ∀ j v, (icells L)[j]? = some v → w.cell? ((⟨g, 0, none⟩ : Addr).add j) = some v := by
        intro j v hv
        rw [icells, List.getElem?_map, Option.map_eq_some_iff] at hv
        obtain ⟨y, hy, rfl⟩ := hv
        rw [Addr.add_mid]
        exact hu j y hy
      have hr2 := run_append_grow (P := Try.prog) w 79 ty 3 i0 (.int .i64 0) Try.underlying79 hi hi0 ⟨g, 0, none⟩ n cap (icells L) (by rw [hi1]; exact hlen) holds ad 1 c [.int .i64 (x : Int)] (by rw [hi1]; rfl) hnews (by omega) (by omega) (growslice_fits (by omega) (by rw [hi2]; omega))
      rw [hr] at hr2
      injection hr2 with _ e
      subst e
      have hlt : g < w.drew.heap.size := lt_of_heap hh
      intro j y hy
      rw [World.cell?_of_block (w := w) (heap_alloc_old w.drew _ hlt)]
      exact hu j y hy
theorem wp_append_kept (w : World) {o : Oper} {a : Act} {K : Act → World → Prop} {Q : Exit → Act → World → Prop} (sl y : Operand)
    (ho : o.op = .call { callee := .builtin .append, args := #[sl, y], argTypes := #[79, 79] }) (B g n cap : Nat) (L : List Nat) (hs : a.eval sl = .slice (some ⟨g, 0, none⟩) n cap) (hown : w.ownsRow B 3 1 (.slice (some ⟨g, 0, none⟩) n cap) n (icells L))
    (ad : Addr) (c : Nat) (x : Nat) (hy : a.eval y = .slice (some ad) 1 c) (hx : w.cell? ad = some (.int .i64 (x : Int))) (hb : n + 1 ≤ 1099511627776) (hbase : B ≤ w.heap.size)
    (hk : ∀ g' cap' w', w'.ownsRow B 3 1 (.slice (some ⟨g', 0, none⟩) (n + 1) cap') (n + 1) (icells (L ++ [x])) → w.grownBy w' (some g) → IAt w' g 0 L → K (a.put o.dst (.slice (some ⟨g', 0, none⟩) (n + 1) cap')) w') : o.wp Try.prog a w K Q := by
  obtain ⟨g', cap', w', hr, h2, h3, h4⟩ := run_append_kept w o.type B g n cap L hown ad c x hx hb hbase
  unfold Oper.wp execOp
  simp only [ho, resolve, invoke, builtin, Sem.run_bind, Sem.run_pure, Result.andThen_ok, List.map_toArray, List.map_cons, List.map_nil, hs, hy, hr]
  exact hk g' cap' w' h2 h3 h4
theorem step_append_kept (w : World) {ops : Array Oper} {o : Oper} {a : Act} {K : Act → World → Prop} {Q : Exit → Act → World → Prop} {E : Prop} (hgd : o.guard = none) (sl y : Operand)
    (ho : o.op = .call { callee := .builtin .append, args := #[sl, y], argTypes := #[79, 79] }) (B g n cap : Nat) (L : List Nat) (hs : a.eval sl = .slice (some ⟨g, 0, none⟩) n cap) (hown : w.ownsRow B 3 1 (.slice (some ⟨g, 0, none⟩) n cap) n (icells L))
    (ad : Addr) (c : Nat) (x : Nat) (hy : a.eval y = .slice (some ad) 1 c) (hx : w.cell? ad = some (.int .i64 (x : Int))) (hb : n + 1 ≤ 1099511627776) (hbase : B ≤ w.heap.size)
    (hk : ∀ g' cap' w', w'.ownsRow B 3 1 (.slice (some ⟨g', 0, none⟩) (n + 1) cap') (n + 1) (icells (L ++ [x])) → w.grownBy w' (some g) → IAt w' g 0 L → K (a.put o.dst (.slice (some ⟨g', 0, none⟩) (n + 1) cap')) w') :
    if Region.wanted o (yielded ops a.tmps) = true then Oper.wp Try.prog o a w K Q else E := by
  rw [if_pos (by simp [Region.wanted, hgd])]
  exact wp_append_kept w sl y ho B g n cap L hs hown ad c x hy hx hb hbase hk
end Go.Proofs.Ytmgkdnejjemfeaa
namespace Go.Proofs.Ytmgkdnejjemfeaa
open Go.RowKit

/-- What the pairs weigh. -/
def pairsN (ps : List (ByteArray × ByteArray)) : Nat := (ps.map fun x => textN x.1.size + textN x.2.size).sum
/-- The pile: what weighs ahead of each place. -/
def pileN (ps : List (ByteArray × ByteArray)) (k : Nat) : List Nat := (List.range (k + 1)).map fun j => pairsN (ps.take j)
theorem pile_succ (ps : List (ByteArray × ByteArray)) (k : Nat) : pileN ps (k + 1) = pileN ps k ++ [pairsN (ps.take (k + 1))] := by
  unfold pileN; rw [List.range_succ (n := k + 1), List.map_append]; rfl
theorem pile_at (ps : List (ByteArray × ByteArray)) {k j : Nat} (h : j ≤ k) : (pileN ps k)[j]? = some (pairsN (ps.take j)) := by
  unfold pileN; rw [List.getElem?_map, List.getElem?_range (by omega)]; rfl
theorem pairs_succ {ps : List (ByteArray × ByteArray)} {k : Nat} {x : ByteArray × ByteArray} (h : ps[k]? = some x) : pairsN (ps.take (k + 1)) = pairsN (ps.take k) + (textN x.1.size + textN x.2.size) := by
  unfold pairsN; rw [List.take_add_one, h]; simp
theorem make_pile (w : World) (n : Nat) (hn : n ≤ 1048576) : ∃ W, (Instr.makeSlice 79 (.int .i64 1) (.int .i64 ((n : Int) + 1))).run Try.prog w = .ok (.slice (some ⟨w.heap.size, 0, none⟩) 1 (n + 1)) W ∧ W.ownsRow w.heap.size 3 1 (.slice (some ⟨w.heap.size, 0, none⟩) 1 (n + 1)) 1 [.int .i64 0] ∧ Same w W := by
  obtain ⟨i0, hi, hi0, hi1, hi2⟩ := info_parts Try.infoInt
  have hm := run_make (P := Try.prog) w 79 3 i0 _ Try.underlying79 hi hi0 .i64 .i64 1 ((n : Int) + 1) (by omega) (by omega) (by rw [hi2]; omega) (by omega)
  rw [show ((n : Int) + 1).toNat = n + 1 from by omega, hi1] at hm
  refine ⟨_, hm, ⟨rfl, Or.inr ⟨w.heap.size, n + 1, _, rfl, Nat.le_refl _, heap_alloc_new w _, by omega, by unfold maxLen; omega, size_madeCells _ _, ?_⟩⟩, (Fr.refl _ w).alloc _⟩
  show (madeCells #[Value.int .i64 0] _).toList.take _ = _
  rw [toList_madeCells_one, Nat.mul_one, Nat.mul_one, List.replicate_succ]; rfl
theorem text_le {n : Nat} (h : n ≤ 1048576) : textN n ≤ 2097152 := by have := (numN_le (n := n) (by omega)).2; unfold textN; omega
theorem pairs_le : ∀ (ps : List (ByteArray × ByteArray)), (∀ x ∈ ps, x.1.size ≤ 1048576 ∧ x.2.size ≤ 1048576) → pairsN ps ≤ ps.length * 4194304
  | [], _ => Nat.le_refl _
  | x :: ps, h => by
    have h1 := pairs_le ps (fun y hy => h y (List.mem_cons_of_mem _ hy))
    obtain ⟨h2, h3⟩ := h x List.mem_cons_self
    have h4 := text_le h2
    have h5 := text_le h3
    have : pairsN (x :: ps) = (textN x.1.size + textN x.2.size) + pairsN ps := by unfold pairsN; rw [List.map_cons, List.sum_cons]
    rw [this, List.length_cons]; omega
set_option maxRecDepth 100000 in
set_option maxHeartbeats 1000000 in
theorem piled_calls {pa : Option Addr} {pb po cp : Nat} {ps : List (ByteArray × ByteArray)} (w : World) (hr : PRow w pa pb po ps) (hn : ps.length ≤ 1048576) (hok : ∀ x ∈ ps, x.1.size ≤ 1048576 ∧ x.2.size ≤ 1048576) :
    Calls Try.prog 48 #[.slice pa ps.length cp, .func (.func 49) #[] #[]] w fun e w' => ∃ g c, e = .returned (.slice (some ⟨g, 0, none⟩) (ps.length + 1) c) ∧ w'.ownsRow w.heap.size 3 1 (.slice (some ⟨g, 0, none⟩) (ps.length + 1) c) (ps.length + 1) (icells (pileN ps ps.length)) ∧ Same w w' := by
  obtain ⟨W0, hm, own0, s0⟩ := make_pile w ps.length hn
  have HR : Hid (PRow w pa pb po ps) := hr
  have HK : Hid (∀ x ∈ ps, x.1.size ≤ 1048576 ∧ x.2.size ≤ 1048576) := hok
  have HP : Hid (∀ k v : ByteArray, k.size ≤ 1048576 → v.size ≤ 1048576 → ∀ W, Calls Try.prog 49 #[.agg #[.string k, .string v]] W fun e w' => e = .returned (.int .i64 (textN k.size + textN v.size : Nat)) ∧ Same W w') := fun k v h1 h2 W => pair_calls k v W h1 h2
  clear hr hok
  go_enter Try.func48, Try.ntmps48
  go_wp2_with fail
  clear hm
  go_loopg [5, 14] ps.length (fun g sv iv w2 => ∃ (k b c : Nat), sv = .slice (some ⟨b, 0, none⟩) (k + 1) c ∧ iv = .int .i64 (k : Int) ∧ k ≤ ps.length ∧ g = ps.length - k ∧ Hid (w2.ownsRow w.heap.size 3 1 (.slice (some ⟨b, 0, none⟩) (k + 1) c) (k + 1) (icells (pileN ps k))) ∧ Hid (Same w w2))
  case atStart => exact ⟨0, w.heap.size, ps.length + 1, rfl, rfl, by omega, rfl, own0, s0⟩
  case round =>
    obtain ⟨k, b, c, rfl, rfl, hk, hg, HO, HS⟩ := hrel
    by_cases hgo : k < ps.length
    · obtain ⟨x, hx⟩ : ∃ x, ps[k]? = some x := ⟨_, List.getElem?_eq_getElem hgo⟩
      obtain ⟨rfl, _⟩ := HR.out.place (fun h => by rw [h] at hgo; simp at hgo)
      have c0 := HS.out.keep (HR.out.cells k x hx).1
      have c1 := HS.out.keep (HR.out.cells k x hx).2
      obtain ⟨hk1, hv1⟩ := HK.out x (List.mem_of_getElem? hx)
      have HE : Hid (pairsN (ps.take (k + 1)) = pairsN (ps.take k) + (textN x.1.size + textN x.2.size)) := pairs_succ hx
      have HI : Hid (IAt wr b 0 (pileN ps k)) := own_iat HO.out
      have hle : pairsN (ps.take k) ≤ 4398046511104 := by
        have := pairs_le (ps.take k) (fun y hy => HK.out y (List.mem_of_mem_take hy))
        rw [List.length_take] at this; omega
      obtain ⟨xk, xv⟩ := x
      simp only at c0 c1 hk1 hv1 HE
      have hl1 := text_le hk1
      have hl2 := text_le hv1
      have HC := HP.out xk xv hk1 hv1
      have HC : Hid (∀ W, Calls Try.prog 49 #[.agg #[.string xk, .string xv]] W fun e w' => e = .returned (.int .i64 (textN xk.size + textN xv.size : Nat)) ∧ Same W w') := HC
      have HI1 : Hid (∀ W, IAt W b 0 (pileN ps k) → W.cell? ⟨b, k, none⟩ = some (.int .i64 (pairsN (ps.take k) : Int))) := fun W h => by
        have := h k _ (pile_at ps (Nat.le_refl k))
        rw [Nat.zero_add] at this; exact this
      generalize hy : textN xk.size + textN xv.size = y at *
      have hy2 : y ≤ 4194304 := by omega
      have HX : Hid (pileN ps (k + 1) = pileN ps k ++ [pairsN (ps.take k) + y]) := by
        show _ = _
        rw [pile_succ, HE.out]
      generalize pairsN (ps.take k) = z at *
      clear hx hy hl1 hl2 HE
      go_wp2_with fail
      obtain ⟨V, hV⟩ : ∃ V, V = wr.alloc (.cells #[.string xk, .string xv] 48) := ⟨_, rfl⟩
      rw [← hV]
      have s1 : Same wr V := by rw [hV]; exact (Fr.refl _ wr).alloc _
      have a0 : V.cell? ⟨wr.heap.size, 0, none⟩ = some (.string xk) := by rw [hV]; simp
      have a1 : V.cell? ⟨wr.heap.size, 1, none⟩ = some (.string xv) := by rw [hV]; simp
      have HO1 : Hid (V.ownsRow w.heap.size 3 1 (.slice (some ⟨b, 0, none⟩) (k + 1) c) (k + 1) (icells (pileN ps k))) := by rw [hV]; exact HO.out.alloc _
      have d0 : Same V V.drew := Fr.drew (Fr.refl _ V)
      have HSV : Hid (∀ W, Same V W → W.cell? ⟨b, k, none⟩ = some (.int .i64 (z : Int)) ∧ W.cell? ⟨wr.heap.size, 0, none⟩ = some (.string xk) ∧ W.cell? ⟨wr.heap.size, 1, none⟩ = some (.string xv)) := fun W h => ⟨h.keep (HI1.out _ (HI.out.same s1)), h.keep a0, h.keep a1⟩
      clear hV c0 c1 a0 a1
      have k1 := HSV.out _ d0
      obtain ⟨m, hm⟩ : ∃ m, m = k + 1 := ⟨_, rfl⟩
      rw [← hm] at HO1 ⊢
      have bk0 : (0 : Int) ≤ (k : Int) := by omega
      have bk1 : (k : Int) < (m : Int) := by omega
      have hmb : m + 1 ≤ 1099511627776 := by omega
      have HM : Hid (m = k + 1) := hm
      clear hm
      have hb3 : w.heap.size ≤ b := (own_ge HO1.out).1
      have hb4 : b < wr.heap.size := (own_ge HO.out).2
      have HN : Hid (∀ (W1 : World) (o : Array Value), o = #[.int .i64 (IntKind.i64.wrap ((z : Int) + (y : Int)))] → (W1.alloc (.cells o 3)).cell? ⟨W1.heap.size, 0, none⟩ = some (.int .i64 ((z + y : Nat) : Int))) := fun W1 o ho => by
        subst ho; rw [cell_of_row _ _ _ _ _ _ (heap_alloc_new W1 _), show IntKind.i64.wrap ((z : Int) + (y : Int)) = ((z + y : Nat) : Int) from by rw [IntKind.wrap_i64]; omega]; rfl
      have HW : Hid (∀ W, Same V W → W.ownsRow w.heap.size 3 1 (.slice (some ⟨b, 0, none⟩) m c) m (icells (pileN ps k))) := fun W h => own_frameB HO1.out h (fun _ _ h => h)
      have HF : Hid (∀ (W1 W5 : World) (o : Obj), Same V W1 → (W1.alloc o).grownBy W5 (some b) → IAt W5 b 0 (pileN ps k) → (W5.cell? ⟨b, k, none⟩ = some (.int .i64 (z : Int)) ∧ W5.cell? ⟨wr.heap.size, 0, none⟩ = some (.string xk) ∧ W5.cell? ⟨wr.heap.size, 1, none⟩ = some (.string xv)) ∧ Same w W5) := fun W1 W5 o h1 h2 h3 => by
        have f1 : Fr (fun i => i = b) V W5 := Fr.grown ((h1.mono (fun _ _ h => h.elim)).alloc o) h2 (fun i hi _ => by injection hi with hi; exact hi.symm)
        obtain ⟨t0, t1, t2⟩ := HSV.out V (Fr.refl _ V)
        refine ⟨⟨HI1.out _ h3, ?_, ?_⟩, Fr.grown ((HS.out.trans (s1.trans h1)).alloc o) h2 (fun i hi hl => by injection hi with hi; omega)⟩
        · exact (f1.cell (World.block_lt_of_cell? _ _ t1) (by simp only; omega)).trans t1
        · exact (f1.cell (World.block_lt_of_cell? _ _ t2) (by simp only; omega)).trans t2
      have HZ : Hid (∀ W1, Same V W1 → ∀ o, w.heap.size ≤ (W1.alloc o).heap.size) := fun W1 h o => by
        have := (HS.out.trans (s1.trans h)).size
        simp; omega
      go_region_held3 (fun W => W.cell? ⟨b, k, none⟩ = some (.int .i64 (z : Int)) ∧ W.cell? ⟨wr.heap.size, 0, none⟩ = some (.string xk) ∧ W.cell? ⟨wr.heap.size, 1, none⟩ = some (.string xv)) (first | exact k3.1 | go_keep | exact k2 | exact k1)
        (first | (go_at_call 49; refine (HC.out _).mono ?_; rintro e W1 ⟨rfl, q1⟩; have u1 := Same.trans d0 q1; have k2 := HSV.out _ u1) | (refine step_append_kept _ (by rfl) _ _ (by rfl) w.heap.size b m c (pileN ps k) (by rfl) ((HW.out _ u1).alloc _) ⟨W1.heap.size, 0, none⟩ 1 (z + y) (by rfl) (HN.out _ _ rfl) hmb (HZ.out _ u1 _) ?_; intro g5 cap5 W5 hown5 hgrow5 hu5; have k3 := HF.out _ _ _ u1 hgrow5 hu5))
      have HO5 : Hid (W5.ownsRow w.heap.size 3 1 (.slice (some ⟨g5, 0, none⟩) (m + 1) cap5) (m + 1) (icells (pileN ps (k + 1)))) := by rw [HX.out]; exact hown5
      rw [HM.out] at HO5 ⊢
      have s5 := k3.2
      clear hown5 hgrow5 hu5 k1 k2 k3 HN HW HF HZ HSV HO1 HI HI1 HX
      go_wp2_with fail
      go_roundg (ps.length - (k + 1))
      case measure => omega
      case rel => exact ⟨k + 1, g5, cap5, rfl, by go_num, by omega, rfl, HO5, s5⟩
    · obtain rfl : k = ps.length := by omega
      go_wp2_with fail
      go_ret
      exact ⟨b, c, rfl, HO.out, HS.out⟩
end Go.Proofs.Ytmgkdnejjemfeaa
namespace Go.Proofs.Ytmgkdnejjemfeaa
open Go.RowKit

set_option maxRecDepth 100000 in
set_option maxHeartbeats 1000000 in
theorem side_calls {cb g n c f t x y : Nat} (w : World) (h0 : w.cell? ⟨cb, 0, none⟩ = some (.slice (some ⟨g, 0, none⟩) n c)) (h1 : w.cell? ⟨g, f, none⟩ = some (.int .i64 (x : Int))) (h2 : w.cell? ⟨g, t, none⟩ = some (.int .i64 (y : Int))) (hft : f ≤ t) (htn : t < n) (hn : n ≤ 1048577) (hxy : x ≤ y) (hy : y ≤ 4398046511104) :
    Calls Try.prog 50 #[.int .i64 (f : Int), .int .i64 (t : Int), .pointer (some ⟨cb, 0, none⟩)] w fun e w' => e = .returned (.int .i64 (1 + numN (t - f) + (y - x) : Nat)) ∧ Same w w' := by
  obtain ⟨d, rfl⟩ : ∃ d, t = f + d := ⟨t - f, by omega⟩
  obtain ⟨v, rfl⟩ : ∃ v, y = x + v := ⟨y - x, by omega⟩
  rw [show f + d - f = d from by omega, show x + v - x = v from by omega]
  have H : Hid (∀ W, Calls Try.prog 47 #[.int .i64 (d : Int)] W fun e w' => e = .returned (.int .i64 (1 + numN d : Nat)) ∧ w' = W) := fun W => head_calls d W (by omega)
  have hb := (numN_le (n := d) (by omega)).2
  obtain ⟨q, hq⟩ : ∃ q, q = 1 + numN d := ⟨_, rfl⟩
  rw [← hq] at H ⊢
  have hq2 : q ≤ 5 := by omega
  obtain ⟨t, ht⟩ : ∃ t, t = f + d := ⟨_, rfl⟩
  obtain ⟨y, hyy⟩ : ∃ y, y = x + v := ⟨_, rfl⟩
  rw [← ht] at h2 htn ⊢
  rw [← hyy] at h2 hy
  have e1 : RowKit.wrap64 ((t : Int) - (f : Int)) = (d : Int) := by unfold RowKit.wrap64; omega
  have e2 : (t : Int) - (f : Int) = (d : Int) := by omega
  have e3 : IntKind.i64.wrap (d : Int) = (d : Int) := by rw [IntKind.wrap_i64]; omega
  have e4 : IntKind.i64.wrap ((t : Int) - (f : Int)) = (d : Int) := by rw [e2, e3]
  have b0 : (0 : Int) ≤ (f : Int) := by omega
  have b1 : (f : Int) < (n : Int) := by omega
  have b2 : (0 : Int) ≤ (t : Int) := by omega
  have b3 : (t : Int) < (n : Int) := by omega
  have HT : Hid (t = f + d ∧ y = x + v) := ⟨ht, hyy⟩
  clear hb hq ht hyy hft htn
  have d0 : Same w w.drew := Fr.drew (Fr.refl _ w)
  have k1 : w.drew.cell? ⟨cb, 0, none⟩ = some (.slice (some ⟨g, 0, none⟩) n c) ∧ w.drew.cell? ⟨g, f, none⟩ = some (.int .i64 (x : Int)) ∧ w.drew.cell? ⟨g, t, none⟩ = some (.int .i64 (y : Int)) := ⟨d0.keep h0, d0.keep h1, d0.keep h2⟩
  clear h0 h1 h2
  go_enter Try.func50, Try.ntmps50
  go_wp2_with fail
  go_region_held3 (fun W => W.cell? ⟨cb, 0, none⟩ = some (.slice (some ⟨g, 0, none⟩) n c) ∧ W.cell? ⟨g, f, none⟩ = some (.int .i64 (x : Int)) ∧ W.cell? ⟨g, t, none⟩ = some (.int .i64 (y : Int))) (exact k1)
    (first | (go_at_call 47; refine (H.out _).mono ?_; rintro e W1 ⟨rfl, hW⟩; rw [hW]))
  go_wp2_with fail
  go_ret
  refine ⟨congrArg Ending.returned (congrArg (Value.int IntKind.i64) ?_), d0⟩
  obtain ⟨_, hv⟩ := HT.out
  have e5 : IntKind.i64.wrap ((q : Int) + (y : Int)) = ((q + y : Nat) : Int) := by rw [IntKind.wrap_i64]; omega
  have e6 : IntKind.i64.wrap (((q + y : Nat) : Int) - (x : Int)) = ((q + v : Nat) : Int) := by rw [IntKind.wrap_i64]; omega
  show IntKind.i64.wrap (IntKind.i64.wrap ((q : Int) + (y : Int)) - (x : Int)) = _
  rw [e5, e6]
theorem pairs_take_le (ps : List (ByteArray × ByteArray)) {i j : Nat} (h : i ≤ j) : pairsN (ps.take i) ≤ pairsN (ps.take j) := by
  have : ps.take i = (ps.take j).take i := by rw [List.take_take, Nat.min_eq_left h]
  rw [this]
  unfold pairsN
  rw [List.map_take]
  generalize (ps.take j).map (fun x => textN x.1.size + textN x.2.size) = l
  have := List.sum_append (l₁ := l.take i) (l₂ := l.drop i)
  rw [List.take_append_drop] at this
  omega
/-- What a leaf's pairs from one on up to another weigh. -/
def sideN (ps : List (ByteArray × ByteArray)) (i j : Nat) : Nat := 1 + numN (j - i) + (pairsN (ps.take j) - pairsN (ps.take i))
set_option maxRecDepth 100000 in
set_option maxHeartbeats 1000000 in
theorem scale_leaf {r : Nr} {N : Nd} {p q : Int} (w : World) (hr : PRow w r.pa r.pb r.po N.ps) (hk : N.ks.length = 0) (hn : N.ps.length ≤ 1048576) (hok : ∀ x ∈ N.ps, x.1.size ≤ 1048576 ∧ x.2.size ≤ 1048576) :
    Calls Try.prog 23 #[frameV p q, ndV r N] w fun e w' => ∃ cb, e = .returned (.func (.func 50) #[] #[.pointer (some ⟨cb, 0, none⟩)]) ∧ w.heap.size ≤ cb ∧ Same w w' ∧ (∃ g c, w'.cell? ⟨cb, 0, none⟩ = some (.slice (some ⟨g, 0, none⟩) (N.ps.length + 1) c) ∧ IAt w' g 0 (pileN N.ps N.ps.length) ∧ w.heap.size ≤ g) := by
  have HP : Hid (∀ W, Same w W → Calls Try.prog 48 #[.slice r.pa N.ps.length r.cp, .func (.func 49) #[] #[]] W fun e w' => ∃ g c, e = .returned (.slice (some ⟨g, 0, none⟩) (N.ps.length + 1) c) ∧ w'.ownsRow W.heap.size 3 1 (.slice (some ⟨g, 0, none⟩) (N.ps.length + 1) c) (N.ps.length + 1) (icells (pileN N.ps N.ps.length)) ∧ Same W w') := fun W h => piled_calls W (hr.same h) hn hok
  clear hr hok
  have hz : ¬ 0 < N.ks.length := by omega
  go_enter Try.func23, Try.ntmps23
  go_wp2_with fail
  refine (HP.out _ (((Fr.refl _ w).alloc _).alloc _)).mono ?_
  rintro e W1 ⟨g, c, rfl, own1, s1⟩
  have HS : Hid (Same w W1) := Same.trans (((Fr.refl _ w).alloc _).alloc _) s1
  have HI : Hid (IAt W1 g 0 (pileN N.ps N.ps.length)) := own_iat own1
  have HG : Hid (w.heap.size ≤ g) := by have := (own_ge own1).1; simp at this; show _ ≤ _; omega
  clear own1 s1
  go_wp2_with fail
  go_ret
  exact ⟨W1.heap.size, rfl, HS.out.size, HS.out.alloc _, g, c, by simp, HI.out.same ((Fr.refl _ W1).alloc _), HG.out⟩
end Go.Proofs.Ytmgkdnejjemfeaa
