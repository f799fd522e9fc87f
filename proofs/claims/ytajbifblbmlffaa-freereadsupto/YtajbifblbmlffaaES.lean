/- What maps.Keys tells, collected: numbers of 32 bits. -/
import Derived.Test.YtajbifblbmlffaaER
namespace Go.Proofs.Ytajbifblbmlffaa
open Go.RowKit Go.Maps Go.Shelf
attribute [local go_sem] Oper.semAt_some

theorem wpListIn_partNums {F : Fence} {nF : Nat} (w : World) {ops : Array Oper} {rest : List Oper} {o : Oper} {a : Act} {Q : Exit → Act → World → Prop} (hgd : o.guard = none) (sl y : Operand)
    (ho : o.op = .call { callee := .builtin .append, args := #[sl, y], argTypes := #[51, 51] }) {B n : Nat} {v : Value} {xs : List Value} (hs : a.eval sl = v) (hown : w.ownsRow B 28 1 v n xs) {x : Part} (hy : a.eval y = .slice x.ao x.n x.c) (hx : PartOk w 1 x) (hb : n + x.n ≤ 1099511627776) (hB : B ≤ w.heap.size)
    (hk : ∀ ao c w', w'.ownsRow B 28 1 (.slice ao (n + x.n) c) (n + x.n) (xs ++ x.cells) → w.grownBy w' v.ownBlock → wpListIn F nF Try.prog ops Q rest (a.put o.dst (.slice ao (n + x.n) c)) w') : wpListIn F nF Try.prog ops Q (o :: rest) a w := by
  refine wpListIn_plain hgd fun K hK => ?_
  obtain ⟨v', w', hr, h2, h3⟩ := run_partNums w o.type hown hx hb hB
  obtain ⟨ao, c, rfl⟩ := own_shape h2
  unfold Oper.wpIn
  refine ⟨by simp [Oper.about, ho, resolve, Target.leads, Sem.run_pure], ?_⟩
  rw [Oper.semAt_plain F _ _ (by rw [ho]; intro c hc'; cases hc')]
  simp [execOp, ho, resolve, invoke, builtin, hs, hy, hr, Result.andThen]
  exact hK _ _ (hk ao c w' h2 h3)
theorem own_cellsB {W : World} {B n c sz : Nat} {e : TypeId} {ao : Option Addr} {xs : List Value} (h : W.ownsRow B e sz (.slice ao n c) n xs) {k : Nat} (hk : (Value.slice ao n c).ownBlock = some k) : ∃ cur, W.heap[k]? = some (.cells cur e (0, 0)) := by
  obtain ⟨hl, h0 | ⟨g2, c2, cur, hv, _, hh, _⟩⟩ := h
  · have hn := h0.1
    injection hn with e1 _ _
    rw [e1] at hk
    cases hk
  · injection hv with e1 _ _
    rw [e1] at hk
    simp [Value.ownBlock] at hk
    rw [hk] at hh
    exact ⟨cur, hh⟩
/-- Numbers that are being collected into a box at sb. -/
def ApU (w : World) (sb : Nat) (pre : List Nat) (W : World) : Prop := ∃ (ao : Option Addr) (c : Nat), W.heap[sb]? = some (.cells #[.slice ao pre.length c] 51 (0, 0)) ∧ W.ownsRow w.heap.size 28 1 (.slice ao pre.length c) pre.length (ncells pre) ∧ Same w W
set_option maxRecDepth 100000 in
set_option maxHeartbeats 1000000 in
theorem appendSeqU {Bm b nn : Nat} {D : SetD} (w : World) (hm : w.cell? ⟨Bm, 0, none⟩ = some (.map (some b))) (hs : SetAt w b nn D) (hz : Maps.size D ≤ 1000000) :
    Calls Try.prog 63 #[.slice none 0 0, .func (.func 61) #[] #[.pointer (some ⟨Bm, 0, none⟩)]] w fun e w' => ∃ (xs : List Nat) (ao : Option Addr) (c : Nat), e = .returned (.slice ao xs.length c) ∧ xs.Nodup ∧ (∀ x : Nat, x ∈ xs ↔ hasN D x = true) ∧ w'.ownsRow w.heap.size 28 1 (.slice ao xs.length c) xs.length (ncells xs) ∧ Same w w' := by
  have sA : Same w (w.alloc (.cells #[.slice none 0 0] 51)) := (Fr.refl _ w).alloc _
  have HSQ : Hid (SeqStopsK Fence.wide 2 Try.prog 61 #[.pointer (some ⟨Bm, 0, none⟩)] encU KeepsWalks (fun xs => xs.Nodup ∧ ∀ x : Nat, x ∈ xs ↔ hasN D x = true) (fun _ => True) (Maps.size D) (w.alloc (.cells #[.slice none 0 0] 51))) := keysU_stops (sA.keep hm) (hs.fr sA (fun f => f))
  have r0 := heap_alloc_new w (.cells #[.slice none 0 0] 51)
  have HA : Hid ((w.alloc (.cells #[.slice none 0 0] 51)).heap.size = w.heap.size + 1) := by show _ = _; simp
  refine (callsIn_wide (n := 3)).1 ?_
  refine callsIn_of_wp_marks Try.func63 rfl trivial ?_ rfl
  simp only [Try.ntmps63, List.size_toArray, List.length_cons, List.length_nil, Nat.reduceAdd, Nat.reduceSub, Array.replicate_succ, Array.replicate_zero, List.push_toArray, List.append_toArray, List.nil_append, List.cons_append]
  gi_wp2
  have hAp : ApU w w.heap.size [] (w.alloc (.cells #[.slice none 0 0] 51)) := ⟨none, 0, r0, own_nil, sA⟩
  obtain ⟨V, hV⟩ : ∃ V, V = w.alloc (.cells #[.slice none 0 0] 51) := ⟨_, rfl⟩
  rw [← hV] at HSQ hAp HA ⊢
  obtain ⟨sb, hsb⟩ : ∃ sb, sb = w.heap.size := ⟨_, rfl⟩
  rw [← hsb] at hAp HA ⊢
  have HSB : Hid (sb = w.heap.size) := hsb
  clear hV sA r0 hm hs hsb
  refine wpIn_rangeFunc_ownH (n := 3) (F := Fence.wide) rfl (by omega) (gf := 61) (lb := #[.pointer (some ⟨Bm, 0, none⟩)]) (by rfl) trivial (enters_of Try.func61 (by kernel_rfl) rfl) (encs := encU) (Kp := KeepsWalks) (S := fun xs => xs.Nodup ∧ ∀ x : Nat, x ∈ xs ↔ hasN D x = true) (Sp := fun _ => True) (N := Maps.size D) (w0 := V) HSQ.out (fun h k => h.trans k) (fun W l o o' _ h _ hw => KeepsWalks.putObj o' h hw) (Below.refl _ _) (fun _ => rfl)
    (fun pre W => ApU w sb pre W) (fun _ _ _ => False) ?hI (fun _ _ _ _ _ h _ _ => h) hAp
    (fun x a' _ => a' = { tmps := #[.slice none 0 0, .func (.func 61) #[] #[.pointer (some ⟨Bm, 0, none⟩)], .pointer (some ⟨sb, 0, none⟩), undef, .slice none 0 0, .int .u32 (x : Int), .func (.func 61) #[] #[.pointer (some ⟨Bm, 0, none⟩)], .int .u32 (x : Int), undef, undef, undef, undef, undef], defers := [] }) (fun _ _ _ _ _ _ h _ _ => h) ?assign ?body ?done (fun _ _ _ _ _ _ h _ => h.elim)
  case hI =>
    intro pre A B row hs hg hr
    obtain ⟨ao, c, h1, h2, h3⟩ := hs
    have f : Fr (fun k => row = some k) A B := Fr.grown (Fr.refl _ _) hg (fun k e _ => e)
    refine ⟨ao, c, (f.block _ (lt_of_heap h1) (fun e => ?_)).trans h1, own_frameB h2 f (fun k hk e => ?_), Fr.trans h3 f (fun k hk e => ?_)⟩
    · obtain ⟨_, o, ho, hc⟩ := hr _ e
      rw [h1] at ho
      cases ho
      cases hc
    · obtain ⟨_, o, ho, hc⟩ := hr _ e
      obtain ⟨cur, hcur⟩ := own_cellsB h2 hk
      rw [hcur] at ho
      cases ho
      cases hc
    · have := (hr _ e).1
      have := HA.out
      have := HSB.out
      omega
  case assign =>
    intro l pre x W K hi hK
    unfold encU
    gi_wp2
    exact hK _ _ (KeepsFrom.refl _ _) (KeepsWalks.refl _) hi rfl
  case body =>
    rintro l pre x a' W hl ⟨rr, hrr⟩ ⟨ao, c, h1, h2, h3⟩ rfl hlt
    have c0 : W.cell? ⟨sb, 0, none⟩ = some (.slice ao pre.length c) := (cell_of_row _ _ _ _ _ _ h1).trans rfl
    have sZ : Same W (W.alloc (.cells #[.int .u32 (x : Int)] 28)) := (Fr.refl _ W).alloc _
    have HOZ : Hid ((W.alloc (.cells #[.int .u32 (x : Int)] 28)).ownsRow w.heap.size 28 1 (.slice ao pre.length c) pre.length (ncells pre) ∧ (W.alloc (.cells #[.int .u32 (x : Int)] 28)).heap[sb]? = some (.cells #[.slice ao pre.length c] 51 (0, 0)) ∧ Same w (W.alloc (.cells #[.int .u32 (x : Int)] 28))) := ⟨own_frameB h2 sZ (fun _ _ e => e), (sZ.block _ (lt_of_heap h1) (fun f => f)).trans h1, h3.trans sZ⟩
    have hvb : w.heap.size ≤ (W.alloc (.cells #[.int .u32 (x : Int)] 28)).heap.size := HOZ.out.2.2.size
    have hpl : pre.length + 1 ≤ 1099511627776 := by omega
    have HPC : Hid (∀ (ao2 : Option Addr) (c2 : Nat) (W2 : World), (W.alloc (.cells #[.int .u32 (x : Int)] 28)).grownBy W2 (Value.slice ao pre.length c).ownBlock → W2.heap[sb]? = some (.cells #[.slice ao pre.length c] 51 (0, 0))) := fun ao2 c2 W2 g2 => by
      have f2 : Fr (fun k => (Value.slice ao pre.length c).ownBlock = some k) (W.alloc (.cells #[.int .u32 (x : Int)] 28)) W2 := Fr.grown (Fr.refl _ _) g2 (fun k e _ => e)
      exact (f2.block _ (lt_of_heap HOZ.out.2.1) (fun e => own_neT HOZ.out.1 HOZ.out.2.1 (by decide) _ e rfl)).trans HOZ.out.2.1
    clear h1 h2 h3 sZ hl hrr
    gi_wp2_with (gi_at_builtin; refine wpListIn_partNums _ (by rfl) _ _ (by rfl) (by rfl) HOZ.out.1 (x := ⟨some ⟨W.heap.size, 0, none⟩, 1, 1, [.int .u32 (x : Int)]⟩) (by rfl) (part_oneN _ _ (heap_alloc_new W _) rfl) hpl hvb ?_; intro ao2 c2 W2 o2 g2; have r2 := HPC.out ao2 c2 W2 g2; have n2 : W2.cell? ⟨sb, 0, none⟩ = some (.slice ao pre.length c) := (cell_of_row _ _ _ _ _ _ r2).trans rfl; have z2 : W2.frozen? ⟨sb, 0, none⟩ = false := by simp [World.frozen?, r2])
    have f2 : Fr (fun k => (Value.slice ao pre.length c).ownBlock = some k) (W.alloc (.cells #[.int .u32 (x : Int)] 28)) W2 := Fr.grown (Fr.refl _ _) g2 (fun k e _ => e)
    have f3 : Fr (fun k => k = sb) W2 (W2.setCell ⟨sb, 0, none⟩ (.slice ao2 (pre.length + 1) c2)) := (Fr.refl (fun k => k = sb) _).setCell (p := ⟨sb, 0, none⟩) (fun _ => rfl) _
    have k1 : KeepsOthers W (W2.setCell ⟨sb, 0, none⟩ (.slice ao2 (pre.length + 1) c2)) := ((KeepsOthers.alloc W _).trans (KeepsOthers.of_grownBy g2 (fun j o e ho => by
      obtain ⟨cur, hcur⟩ := own_cellsB HOZ.out.1 e
      rw [hcur] at ho
      cases ho
      rfl))).trans (KeepsOthers.setCell _ _ _)
    have hl2 : (pre ++ [x]).length = pre.length + 1 := by simp
    refine ⟨k1.from _, k1.walks, ao2, c2, ?_, ?_, ?_⟩
    · rw [hl2]; exact Boxed.set (.slice ao2 (pre.length + 1) c2) r2
    · rw [hl2, ncells_app]; exact own_frameB o2 f3 (own_neT o2 r2 (by decide))
    · refine Fr.trans (Fr.trans HOZ.out.2.2 f2 (fun k hk e => ?_)) f3 (fun k hk e => ?_)
      · have := own_blk HOZ.out.1 k e
        omega
      · have := HSB.out
        omega
  case done =>
    rintro E xs W hE ⟨hS1, hS2⟩ ⟨ao, c, h1, h2, h3⟩ hK
    have c0 : W.cell? ⟨sb, 0, none⟩ = some (.slice ao xs.length c) := (cell_of_row _ _ _ _ _ _ h1).trans rfl
    gi_wp2
    refine ⟨by simp, .inl ⟨_, _, rfl, run_takeDeferred hK, ?_⟩⟩
    have f : Fr (fun k => k = E) W (W.putObj E (.deferred none)) := Fr.grown (Fr.refl _ _) (grownBy_putObj' W E (.deferred none)) (fun k e _ => by cases e; rfl)
    refine ⟨_, results_tmp rfl _ _ _, xs, ao, c, rfl, hS1, hS2, own_frameB h2 f (fun k hk e => ?_), Fr.trans h3 f (fun k hk e => ?_)⟩
    · obtain ⟨cur, hcur⟩ := own_cellsB h2 hk
      rw [e, hK] at hcur
      cases hcur
    · have := HA.out
      have := HSB.out
      omega
end Go.Proofs.Ytajbifblbmlffaa
