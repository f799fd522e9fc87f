/- NodeCopies: the walk. -/
import Derived.Test.YtjlbkagkmcelgaaNCLJ
namespace Go.Proofs.Ytjlbkagkmcelgaa
open Go.RowKit Go.Maps

/-- A node in rows of its own that just hold it. -/
structure CpN (W : World) (p s k : Sl) (N : Nd) : Prop where
  P : RX FP W p (pcells N.ps)
  S : RX FS W s (scells N.ss)
  K : RX FK W k (kcellsL N.ks)
  np : p.n = N.ps.length
  ns : s.n = N.ss.length
  nk : k.n = N.ks.length
section
variable {w W W' : World} {p s k : Sl} {N : Nd} {T : Nat → Prop} {r : Nr} {g : Nat}
theorem CpN.fr (h : CpN W p s k N) (f : Fr T W W') (hT : ∀ i, inN p s k i → ¬ T i) : CpN W' p s k N :=
  ⟨h.P.fr f (fun i e => hT i (Or.inl e)), h.S.fr f (fun i e => hT i (Or.inr (Or.inl e))), h.K.fr f (fun i e => hT i (Or.inr (Or.inr e))), h.np, h.ns, h.nk⟩
theorem CpN.own (h : CpN W p s k N) (h1 : N.ps.length ≤ 1048576) (h2 : N.ss.length ≤ 1048576) (h3 : N.ks.length ≤ 1048576) : Own3 W p s k := ⟨⟨_, h.P⟩, ⟨_, h.S⟩, ⟨_, h.K⟩, by rw [h.np]; exact h1, by rw [h.ns]; exact h2, by rw [h.nk]; exact h3⟩
theorem CpN.nd (h : CpN W p s k N) {v : World} (hn : NdAt v r N) : ∃ nr : Nr, ndV nr N = nV p s k ∧ NdAt W nr N := by
  have hP := h.P
  have hS := h.S
  have hK := h.K
  obtain ⟨pa, pn, pc⟩ := p
  obtain ⟨sa, sn, sc⟩ := s
  obtain ⟨ka, kn, kc⟩ := k
  obtain ⟨g1, r1⟩ := own_prow hP h.np
  obtain ⟨g2, r2⟩ := own_trow hS h.ns
  obtain ⟨g3, r3⟩ := own_krow hn.ok hK h.nk
  refine ⟨⟨pa, g1, 0, pc, sa, g2, 0, sc, ka, g3, 0, kc⟩, ?_, ⟨r1, r2, r3, hn.ok, hn.lp, hn.ls, hn.lk⟩⟩
  have e1 : pn = N.ps.length := h.np
  have e2 : sn = N.ss.length := h.ns
  have e3 : kn = N.ks.length := h.nk
  subst e1 e2 e3
  rfl
theorem Copied.cp (h : Copied w W r N) : CpN W ⟨r.pa, N.ps.length, r.cp⟩ ⟨r.sa, N.ss.length, r.cs⟩ ⟨r.ka, N.ks.length, r.ck⟩ N := ⟨own_base h.op (Nat.zero_le _), own_base h.os (Nat.zero_le _), own_base h.ok (Nat.zero_le _), rfl, rfl, rfl⟩
theorem Copied.ge (h : Copied w W r N) : ∀ i, inN ⟨r.pa, N.ps.length, r.cp⟩ ⟨r.sa, N.ss.length, r.cs⟩ ⟨r.ka, N.ks.length, r.ck⟩ i → w.heap.size ≤ i ∧ i < W.heap.size := fun i hi => by
  rcases hi with e | e | e
  · exact h.op.lt i (by rw [blk_of]; exact e)
  · exact h.os.lt i (by rw [blk_of]; exact e)
  · exact h.ok.lt i (by rw [blk_of]; exact e)
theorem Own3.notbox (h : Own3 W p s k) {cs : Array Value} {fr : Nat × Nat} (hg : W.heap[g]? = some (.cells cs 26 fr)) : ¬ inN p s k g := fun hi => by
  obtain ⟨_, h1⟩ := h.P
  obtain ⟨_, h2⟩ := h.S
  obtain ⟨_, h3⟩ := h.K
  rcases hi with e | e | e
  · exact h1.ne hg (by decide) e
  · exact h2.ne hg (by decide) e
  · exact h3.ne hg (by decide) e
theorem box_cells {u v z : Value} (h : W.heap[g]? = some (.cells #[u, v, z] 26 (0, 0))) : W.cell? ⟨g, 0, none⟩ = some u ∧ W.cell? ⟨g, 1, none⟩ = some v ∧ W.cell? ⟨g, 2, none⟩ = some z :=
  ⟨(cell_of_row _ _ _ _ _ _ h).trans rfl, (cell_of_row _ _ _ _ _ _ h).trans rfl, (cell_of_row _ _ _ _ _ _ h).trans rfl⟩
end
def cNC : Code := (Code.seq (Code.region 0 rNC0 false) (Code.seq (Code.region 1 rNC1 true) (Code.seq (Code.seq (Code.region 2 rNC2 true) (Code.cond (Operand.tmp 37) (Code.seq (Code.region 3 rNC3 false) Code.ret) Code.skip)) (Code.seq (Code.region 4 rNC4 false) (Code.seq (Code.region 5 rNC5 false) (Code.seq (Code.seq (Code.region 6 rNC6 false) (Code.cond (Operand.tmp 57) (Code.seq (Code.region 7 rNC7 false) Code.ret) Code.skip)) (Code.seq (Code.region 8 rNC8 false) (Code.seq (Code.region 9 rNC9 true) Code.ret))))))))
set_option maxRecDepth 100000 in
set_option maxHeartbeats 4000000 in
theorem ncopies_walk {r q : Nr} {N M : Nd} (w : World) (hN : NdIn w r N) (hM : NdIn w q M) (h1 : N.ps.length ≤ 1048576) (h2 : N.ss.length ≤ 1048576) (h3 : N.ks.length ≤ 1048576) (m1 : M.ps.length ≤ 1048576) (m2 : M.ss.length ≤ 1048576) (m3 : M.ks.length ≤ 1048576) :
    Calls Try.prog 3 #[ndV r N, ndV q M] w fun e w' => e = .returned (.bool true) ∧ Same w w' := by
  obtain ⟨V, hV⟩ : ∃ V, V = (w.alloc (.cells #[.slice r.pa N.ps.length r.cp, .slice r.sa N.ss.length r.cs, .slice r.ka N.ks.length r.ck] 26)).alloc (.cells #[.slice q.pa M.ps.length q.cp, .slice q.sa M.ss.length q.cs, .slice q.ka M.ks.length q.ck] 26) := ⟨_, rfl⟩
  have sx : Same w V := by rw [hV]; exact ((Fr.refl _ w).alloc _).alloc _
  have bA0 : V.drew.heap[w.heap.size]? = some (.cells #[.slice r.pa N.ps.length r.cp, .slice r.sa N.ss.length r.cs, .slice r.ka N.ks.length r.ck] 26 (0, 0)) := by show V.heap[w.heap.size]? = _; rw [hV]; exact (heap_alloc_old _ _ (by simp)).trans (heap_alloc_new w _)
  have bB0 : V.drew.heap[w.heap.size + 1]? = some (.cells #[.slice q.pa M.ps.length q.cp, .slice q.sa M.ss.length q.cs, .slice q.ka M.ks.length q.ck] 26 (0, 0)) := by show V.heap[w.heap.size + 1]? = _; rw [hV]; exact heap_alloc2_new w _ _
  obtain ⟨az0, az1, az2⟩ := box_cells bA0
  obtain ⟨bz0, bz1, bz2⟩ := box_cells bB0
  have sd : Same w V.drew := sx.drew
  have HVS : Hid (Same w V.drew) := sd
  have HVZ : Hid (w.heap.size ≤ V.drew.heap.size) := sd.size
  have HUA : Hid (V.drew.heap[w.heap.size]? = some (.cells #[.slice r.pa N.ps.length r.cp, .slice r.sa N.ss.length r.cs, .slice r.ka N.ks.length r.ck] 26 (0, 0)) ∧ V.drew.heap[w.heap.size + 1]? = some (.cells #[.slice q.pa M.ps.length q.cp, .slice q.sa M.ss.length q.cs, .slice q.ka M.ks.length q.ck] 26 (0, 0))) := ⟨bA0, bB0⟩
  have HL : Hid (N.ps.length ≤ 1048576 ∧ N.ss.length ≤ 1048576 ∧ N.ks.length ≤ 1048576 ∧ M.ps.length ≤ 1048576 ∧ M.ss.length ≤ 1048576 ∧ M.ks.length ≤ 1048576) := ⟨h1, h2, h3, m1, m2, m3⟩
  have HN : Hid (NdIn w r N) := hN
  have HM : Hid (NdIn w q M) := hM
  have HLA : Hid (∀ W, Same V.drew W → Calls Try.prog 4 #[.agg #[.slice r.pa N.ps.length r.cp, .slice r.sa N.ss.length r.cs, .slice r.ka N.ks.length r.ck]] W fun e w' => ∃ xp xs xk : Sl, e = .returned (nV xp xs xk) ∧ LentN w' W.heap.size xp xs xk N ∧ Same W w') := fun W s => lent_calls W (hN.same (sd.trans s)) h1 h2 h3
  have HLB : Hid (∀ W, Same V.drew W → Calls Try.prog 4 #[.agg #[.slice q.pa M.ps.length q.cp, .slice q.sa M.ss.length q.cs, .slice q.ka M.ks.length q.ck]] W fun e w' => ∃ xp xs xk : Sl, e = .returned (nV xp xs xk) ∧ LentN w' W.heap.size xp xs xk M ∧ Same W w') := fun W s => lent_calls W (hM.same (sd.trans s)) m1 m2 m3
  have HS1 : Hid (∀ X, Same V.drew X → (fun Z => (Z.cell? ⟨w.heap.size, 0, none⟩ = some (.slice r.pa N.ps.length r.cp) ∧ Z.cell? ⟨w.heap.size, 1, none⟩ = some (.slice r.sa N.ss.length r.cs) ∧ Z.cell? ⟨w.heap.size, 2, none⟩ = some (.slice r.ka N.ks.length r.ck)) ∧ Z.cell? ⟨w.heap.size + 1, 0, none⟩ = some (.slice q.pa M.ps.length q.cp) ∧ Z.cell? ⟨w.heap.size + 1, 1, none⟩ = some (.slice q.sa M.ss.length q.cs) ∧ Z.cell? ⟨w.heap.size + 1, 2, none⟩ = some (.slice q.ka M.ks.length q.ck)) X) := fun X s => ⟨⟨s.keep az0, s.keep az1, s.keep az2⟩, s.keep bz0, s.keep bz1, s.keep bz2⟩
  have HSn : Hid (∀ W X b, Same V.drew W → V.drew.heap.size ≤ b → Fr (fun k => k = b) W X → (fun Z => (Z.cell? ⟨w.heap.size, 0, none⟩ = some (.slice r.pa N.ps.length r.cp) ∧ Z.cell? ⟨w.heap.size, 1, none⟩ = some (.slice r.sa N.ss.length r.cs) ∧ Z.cell? ⟨w.heap.size, 2, none⟩ = some (.slice r.ka N.ks.length r.ck)) ∧ Z.cell? ⟨w.heap.size + 1, 0, none⟩ = some (.slice q.pa M.ps.length q.cp) ∧ Z.cell? ⟨w.heap.size + 1, 1, none⟩ = some (.slice q.sa M.ss.length q.cs) ∧ Z.cell? ⟨w.heap.size + 1, 2, none⟩ = some (.slice q.ka M.ks.length q.ck)) X) := fun W X b s hb f => by
    have hh := lt_of_heap bA0
    have hh2 := lt_of_heap bB0
    exact ⟨box_cells ((f.block _ (Nat.lt_of_lt_of_le hh s.size) (fun e => by omega)).trans ((s.block _ hh (fun f => f)).trans bA0)), box_cells ((f.block _ (Nat.lt_of_lt_of_le hh2 s.size) (fun e => by omega)).trans ((s.block _ hh2 (fun f => f)).trans bB0))⟩
  -- the document's Same of what a row holds and what came in
  have HSC : Hid (∀ W (p s k : Sl), CpN W p s k N → Same w W → Calls Try.prog 6 #[nV p s k, .agg #[.slice r.pa N.ps.length r.cp, .slice r.sa N.ss.length r.cs, .slice r.ka N.ks.length r.ck]] W fun e w' => e = .returned (.bool true) ∧ Same W w') := fun W p s k hc hs => by
    obtain ⟨nr, en, hd⟩ := hc.nd hN.at_
    have := rsame_calls W hd (hN.same hs).at_
    rw [en] at this
    exact this.mono fun e w' ⟨b, he, hb, h⟩ => ⟨by rw [he, hb.2 rfl], h⟩
  have HSD : Hid (∀ W (p s k : Sl), CpN W p s k M → Same w W → Calls Try.prog 6 #[nV p s k, .agg #[.slice q.pa M.ps.length q.cp, .slice q.sa M.ss.length q.cs, .slice q.ka M.ks.length q.ck]] W fun e w' => e = .returned (.bool true) ∧ Same W w') := fun W p s k hc hs => by
    obtain ⟨nr, en, hd⟩ := hc.nd hM.at_
    have := rsame_calls W hd (hM.same hs).at_
    rw [en] at this
    exact this.mono fun e w' ⟨b, he, hb, h⟩ => ⟨by rw [he, hb.2 rfl], h⟩
  clear sx sd bA0 bB0 h1 h2 h3 m1 m2 m3 hN hM
  refine calls_abs (c := cNC) Try.func3 (by kernel_rfl) 82 rfl (by simp) (fun a0 hsz hd ha => ?_)
  have fa0_0 := Fe.refl a0
  unfold cNC
  refine wp_seq ?_
  refine wp_region_list ?_
  unfold rNC0
  have r_a0_1 : (execOp a0.eval { dst := some 2, op := Op.box 26 (Operand.tmp 0), type := 0, pos := "law.go:117", after := #[], guard := none }).run Try.prog (w) = .ok (.value (.pointer (some ⟨w.heap.size, 0, none⟩))) (w.alloc (.cells #[.slice r.pa N.ps.length r.cp, .slice r.sa N.ss.length r.cs, .slice r.ka N.ks.length r.ck] 26)) := by
    have e0 := (show a0.eval (.tmp 0) = .agg #[.slice r.pa N.ps.length r.cp, .slice r.sa N.ss.length r.cs, .slice r.ka N.ks.length r.ck] from ((fa0_0.at_ 0).trans (ha 0 _ rfl)))
    clear fa0_0 
    generalize a0.eval = ρ at *
    go_simp
  refine fa0_0.stepW 2 (.pointer (some ⟨w.heap.size, 0, none⟩)) rfl (lb_ hsz) (wanted_none rfl) r_a0_1 (fun a0_1 fa0_1 => ?_)
  clear r_a0_1
  clear fa0_0
  have r_a0_2 : (execOp a0_1.eval { dst := some 3, op := Op.box 26 (Operand.tmp 1), type := 0, pos := "law.go:117", after := #[], guard := none }).run Try.prog (w.alloc (.cells #[.slice r.pa N.ps.length r.cp, .slice r.sa N.ss.length r.cs, .slice r.ka N.ks.length r.ck] 26)) = .ok (.value (.pointer (some ⟨w.heap.size + 1, 0, none⟩))) ((w.alloc (.cells #[.slice r.pa N.ps.length r.cp, .slice r.sa N.ss.length r.cs, .slice r.ka N.ks.length r.ck] 26)).alloc (.cells #[.slice q.pa M.ps.length q.cp, .slice q.sa M.ss.length q.cs, .slice q.ka M.ks.length q.ck] 26)) := by
    have e1 := (show a0_1.eval (.tmp 1) = .agg #[.slice q.pa M.ps.length q.cp, .slice q.sa M.ss.length q.cs, .slice q.ka M.ks.length q.ck] from ((fa0_1.at_ 1).trans (ha 1 _ rfl)))
    clear fa0_1 
    generalize a0_1.eval = ρ at *
    go_simp
  refine fa0_1.stepW 3 (.pointer (some ⟨w.heap.size + 1, 0, none⟩)) rfl (lb_ hsz) (wanted_none rfl) r_a0_2 (fun a0_2 fa0_2 => ?_)
  clear r_a0_2
  clear fa0_1
  refine fa0_2.move 4 (.bool false) _ (Or.inr rfl) rfl (lb_ hsz) (wanted_none rfl) rfl (fun a0_3 fa0_3 => ?_)
  clear fa0_2
  refine wpList_nil ?_
  rw [← hV]
  change Code.wp _ _ _ _ _
  refine wp_seq ?_
  refine wp_region_held_drew (ops := rNC1) (S := fun Z => (Z.cell? ⟨w.heap.size, 0, none⟩ = some (.slice r.pa N.ps.length r.cp) ∧ Z.cell? ⟨w.heap.size, 1, none⟩ = some (.slice r.sa N.ss.length r.cs) ∧ Z.cell? ⟨w.heap.size, 2, none⟩ = some (.slice r.ka N.ks.length r.ck)) ∧ Z.cell? ⟨w.heap.size + 1, 0, none⟩ = some (.slice q.pa M.ps.length q.cp) ∧ Z.cell? ⟨w.heap.size + 1, 1, none⟩ = some (.slice q.sa M.ss.length q.cs) ∧ Z.cell? ⟨w.heap.size + 1, 2, none⟩ = some (.slice q.ka M.ks.length q.ck)) (by kernel_rfl) (⟨⟨az0, az1, az2⟩, bz0, bz1, bz2⟩) (fun hS3 => ?_)
  have r_a0_4 : ∀ Z, (fun Z => (Z.cell? ⟨w.heap.size, 0, none⟩ = some (.slice r.pa N.ps.length r.cp) ∧ Z.cell? ⟨w.heap.size, 1, none⟩ = some (.slice r.sa N.ss.length r.cs) ∧ Z.cell? ⟨w.heap.size, 2, none⟩ = some (.slice r.ka N.ks.length r.ck)) ∧ Z.cell? ⟨w.heap.size + 1, 0, none⟩ = some (.slice q.pa M.ps.length q.cp) ∧ Z.cell? ⟨w.heap.size + 1, 1, none⟩ = some (.slice q.sa M.ss.length q.cs) ∧ Z.cell? ⟨w.heap.size + 1, 2, none⟩ = some (.slice q.ka M.ks.length q.ck)) Z → (execOp a0_3.eval { dst := some 9, op := Op.load 26 (Operand.tmp 2), type := 26, pos := "law.go:118", after := #[], guard := none }).run Try.prog Z = .ok (.value (.agg #[.slice r.pa N.ps.length r.cp, .slice r.sa N.ss.length r.cs, .slice r.ka N.ks.length r.ck])) Z := fun Z hZ => by
    obtain ⟨⟨az0, az1, az2⟩, bz0, bz1, bz2⟩ := hZ
    have e2 := (show a0_3.eval (.tmp 2) = .pointer (some ⟨w.heap.size, 0, none⟩) from (fa0_3.at_ 2))
    clear fa0_3 
    generalize a0_3.eval = ρ at *
    go_simp
  refine fa0_3.take 0 9 (.agg #[.slice r.pa N.ps.length r.cp, .slice r.sa N.ss.length r.cs, .slice r.ka N.ks.length r.ck]) rfl (by kernel_rfl) (by kernel_rfl) (by kernel_rfl) (fun _ _ _ h => h) rfl (lb_ hsz) (wanted_none rfl) r_a0_4 hS3 (fun a0_4 fa0_4 => ?_)
  clear r_a0_4
  clear fa0_3
  have r_a0_5 : ∀ Z, (fun Z => (Z.cell? ⟨w.heap.size, 0, none⟩ = some (.slice r.pa N.ps.length r.cp) ∧ Z.cell? ⟨w.heap.size, 1, none⟩ = some (.slice r.sa N.ss.length r.cs) ∧ Z.cell? ⟨w.heap.size, 2, none⟩ = some (.slice r.ka N.ks.length r.ck)) ∧ Z.cell? ⟨w.heap.size + 1, 0, none⟩ = some (.slice q.pa M.ps.length q.cp) ∧ Z.cell? ⟨w.heap.size + 1, 1, none⟩ = some (.slice q.sa M.ss.length q.cs) ∧ Z.cell? ⟨w.heap.size + 1, 2, none⟩ = some (.slice q.ka M.ks.length q.ck)) Z → (execOp a0_4.eval { dst := some 11, op := Op.load 26 (Operand.tmp 3), type := 26, pos := "law.go:118", after := #[], guard := none }).run Try.prog Z = .ok (.value (.agg #[.slice q.pa M.ps.length q.cp, .slice q.sa M.ss.length q.cs, .slice q.ka M.ks.length q.ck])) Z := fun Z hZ => by
    obtain ⟨⟨az0, az1, az2⟩, bz0, bz1, bz2⟩ := hZ
    have e3 := (show a0_4.eval (.tmp 3) = .pointer (some ⟨w.heap.size + 1, 0, none⟩) from (fa0_4.at_ 3))
    clear fa0_4 
    generalize a0_4.eval = ρ at *
    go_simp
  refine fa0_4.take 2 11 (.agg #[.slice q.pa M.ps.length q.cp, .slice q.sa M.ss.length q.cs, .slice q.ka M.ks.length q.ck]) rfl (by kernel_rfl) (by kernel_rfl) (by kernel_rfl) (fun _ _ _ h => h) rfl (lb_ hsz) (wanted_none rfl) r_a0_5 hS3 (fun a0_5 fa0_5 => ?_)
  clear r_a0_5
  clear fa0_4
  refine nc_0ff (w0 := V.drew) (A0 := w.heap.size) (N := N) (M := M) HS1.out HLA.out HLB.out HSn.out (fun a1 U xp xs xk yp ys yk b d hF => ?_) a0_5 V.drew ⟨fa0_5.size.trans hsz, fa0_5.defers.trans hd, (show a0_5.eval (.tmp 2) = .pointer (some ⟨w.heap.size, 0, none⟩) from (fa0_5.at_ 2)), (show a0_5.eval (.tmp 3) = .pointer (some ⟨w.heap.size + 1, 0, none⟩) from (fa0_5.at_ 3)), (show a0_5.eval (.tmp 9) = .agg #[.slice r.pa N.ps.length r.cp, .slice r.sa N.ss.length r.cs, .slice r.ka N.ks.length r.ck] from (fa0_5.at_ 9)), (show a0_5.eval (.tmp 11) = .agg #[.slice q.pa M.ps.length q.cp, .slice q.sa M.ss.length q.cs, .slice q.ka M.ks.length q.ck] from (fa0_5.at_ 11)), Fr.refl _ _, fun h => absurd h (by decide), fun h => (by cases h), fun h => (by cases h)⟩
  change Code.wp _ _ _ _ _
  obtain ⟨xpa, xpn, xpc⟩ := xp
  obtain ⟨xsa, xsn, xsc⟩ := xs
  obtain ⟨xka, xkn, xkc⟩ := xk
  obtain ⟨ypa, ypn, ypc⟩ := yp
  obtain ⟨ysa, ysn, ysc⟩ := ys
  obtain ⟨yka, ykn, ykc⟩ := yk
  clear az0 az1 az2 bz0 bz1 bz2
  have uw : Same w U := HVS.out.trans hF.sm
  have HC2 : Hid (∀ Z, Same U Z → (fun Z => (Z.cell? ⟨w.heap.size, 0, none⟩ = some (.slice r.pa N.ps.length r.cp) ∧ Z.cell? ⟨w.heap.size, 1, none⟩ = some (.slice r.sa N.ss.length r.cs) ∧ Z.cell? ⟨w.heap.size, 2, none⟩ = some (.slice r.ka N.ks.length r.ck)) ∧ (Z.cell? ⟨w.heap.size + 1, 0, none⟩ = some (.slice q.pa M.ps.length q.cp) ∧ Z.cell? ⟨w.heap.size + 1, 1, none⟩ = some (.slice q.sa M.ss.length q.cs) ∧ Z.cell? ⟨w.heap.size + 1, 2, none⟩ = some (.slice q.ka M.ks.length q.ck)) ∧ (Z.cell? ⟨b, 0, none⟩ = some (.slice xpa xpn xpc) ∧ Z.cell? ⟨b, 1, none⟩ = some (.slice xsa xsn xsc) ∧ Z.cell? ⟨b, 2, none⟩ = some (.slice xka xkn xkc)) ∧ Z.cell? ⟨d, 0, none⟩ = some (.slice ypa ypn ypc) ∧ Z.cell? ⟨d, 1, none⟩ = some (.slice ysa ysn ysc) ∧ Z.cell? ⟨d, 2, none⟩ = some (.slice yka ykn ykc)) Z) := fun Z s => ⟨box_cells (((hF.sm.trans s).block _ (lt_of_heap HUA.out.1) (fun f => f)).trans HUA.out.1), box_cells (((hF.sm.trans s).block _ (lt_of_heap HUA.out.2) (fun f => f)).trans HUA.out.2), box_cells ((s.block _ (lt_of_heap hF.hx) (fun f => f)).trans hF.hx), box_cells ((s.block _ (lt_of_heap hF.hy) (fun f => f)).trans hF.hy)⟩
  have HNX : Hid (∀ Z (B : Nat), LentN Z B ⟨xpa, xpn, xpc⟩ ⟨xsa, xsn, xsc⟩ ⟨xka, xkn, xkc⟩ N → ∃ nr : Nr, ndV nr N = .agg #[.slice xpa xpn xpc, .slice xsa xsn xsc, .slice xka xkn xkc] ∧ NdAt Z nr N) := fun Z B h => h.nd HN.out.at_
  have HPS : Hid (∀ Z, Same U Z → Calls Try.prog 5 #[.agg #[.slice xpa xpn xpc, .slice xsa xsn xsc, .slice xka xkn xkc], .agg #[.slice ypa ypn ypc, .slice ysa ysn ysc, .slice yka ykn ykc]] Z fun e w' => ∃ b : Bool, e = .returned (.bool b) ∧ (b = true ↔ N = M) ∧ Same Z w') := fun Z s => by
    obtain ⟨nr, en, hd1⟩ := (hF.X.same s).nd HN.out.at_
    obtain ⟨mr, em, hd2⟩ := (hF.Y.same s).nd HM.out.at_
    have := psame_calls Z hd1 hd2
    rw [en, em] at this
    exact this
  have HRS : Hid (∀ Z, Same U Z → Calls Try.prog 6 #[.agg #[.slice r.pa N.ps.length r.cp, .slice r.sa N.ss.length r.cs, .slice r.ka N.ks.length r.ck], .agg #[.slice q.pa M.ps.length q.cp, .slice q.sa M.ss.length q.cs, .slice q.ka M.ks.length q.ck]] Z fun e w' => ∃ b : Bool, e = .returned (.bool b) ∧ (b = true ↔ N = M) ∧ Same Z w') := fun Z s => rsame_calls Z (HN.out.same (uw.trans s)).at_ (HM.out.same (uw.trans s)).at_
  have HXX : Hid (∀ Z, Same U Z → Calls Try.prog 5 #[.agg #[.slice xpa xpn xpc, .slice xsa xsn xsc, .slice xka xkn xkc], .agg #[.slice xpa xpn xpc, .slice xsa xsn xsc, .slice xka xkn xkc]] Z fun e w' => e = .returned (.bool true) ∧ Same Z w') := fun Z s => by
    obtain ⟨nr, en, hd1⟩ := (hF.X.same s).nd HN.out.at_
    have := psame_calls Z hd1 hd1
    rw [en] at this
    exact this.mono fun e w' ⟨b, he, hb, h⟩ => ⟨by rw [he, hb.2 rfl], h⟩
  have HKK : Hid (∀ Z, LentN Z V.drew.heap.size ⟨xpa, xpn, xpc⟩ ⟨xsa, xsn, xsc⟩ ⟨xka, xkn, xkc⟩ N → Same w Z → Calls Try.prog 7 #[.agg #[.slice xpa xpn xpc, .slice xsa xsn xsc, .slice xka xkn xkc], .agg #[.slice r.pa N.ps.length r.cp, .slice r.sa N.ss.length r.cs, .slice r.ka N.ks.length r.ck]] Z fun e w' => e = .returned (.bool true) ∧ Same Z w') := fun Z l s => by
    have h := kept_true Z l (HN.out.same s).at_ HL.out.1 HL.out.2.1 HL.out.2.2.1
    exact h
  have HKK2 : Hid (∀ Z, LentN Z V.drew.heap.size ⟨ypa, ypn, ypc⟩ ⟨ysa, ysn, ysc⟩ ⟨yka, ykn, ykc⟩ M → Same w Z → Calls Try.prog 7 #[.agg #[.slice ypa ypn ypc, .slice ysa ysn ysc, .slice yka ykn ykc], .agg #[.slice q.pa M.ps.length q.cp, .slice q.sa M.ss.length q.cs, .slice q.ka M.ks.length q.ck]] Z fun e w' => e = .returned (.bool true) ∧ Same Z w') := fun Z l s => by
    have h := kept_true Z l (HM.out.same s).at_ HL.out.2.2.2.1 HL.out.2.2.2.2.1 HL.out.2.2.2.2.2
    exact h
  have HKX : Hid (∀ Z, Same U Z → Calls Try.prog 7 #[.agg #[.slice xpa xpn xpc, .slice xsa xsn xsc, .slice xka xkn xkc], .agg #[.slice r.pa N.ps.length r.cp, .slice r.sa N.ss.length r.cs, .slice r.ka N.ks.length r.ck]] Z fun e w' => e = .returned (.bool true) ∧ Same Z w') := fun Z s => HKK.out Z (hF.X.same s) (uw.trans s)
  have HKY : Hid (∀ Z, Same U Z → Calls Try.prog 7 #[.agg #[.slice ypa ypn ypc, .slice ysa ysn ysc, .slice yka ykn ykc], .agg #[.slice q.pa M.ps.length q.cp, .slice q.sa M.ss.length q.cs, .slice q.ka M.ks.length q.ck]] Z fun e w' => e = .returned (.bool true) ∧ Same Z w') := fun Z s => HKK2.out Z (hF.Y.same s) (uw.trans s)
  have HCP : Hid (∀ Z, Same U Z → Calls Try.prog 8 #[.agg #[.slice xpa xpn xpc, .slice xsa xsn xsc, .slice xka xkn xkc]] Z fun e w' => ∃ r', e = .returned (ndV r' N) ∧ Copied Z w' r' N ∧ Same Z w') := fun Z s => by
    obtain ⟨nr, en, hd1⟩ := (hF.X.same s).nd HN.out.at_
    have := copy_walk Z hd1 HL.out.1 HL.out.2.1 HL.out.2.2.1
    rw [en] at this
    exact this
  have HCY : Hid (∀ Z, LentN Z V.drew.heap.size ⟨ypa, ypn, ypc⟩ ⟨ysa, ysn, ysc⟩ ⟨yka, ykn, ykc⟩ M → Calls Try.prog 8 #[.agg #[.slice ypa ypn ypc, .slice ysa ysn ysc, .slice yka ykn ykc]] Z fun e w' => ∃ r', e = .returned (ndV r' M) ∧ Copied Z w' r' M ∧ Same Z w') := fun Z l => by
    obtain ⟨nr, en, hd1⟩ := l.nd HM.out.at_
    have := copy_walk Z hd1 HL.out.2.2.2.1 HL.out.2.2.2.2.1 HL.out.2.2.2.2.2
    rw [en] at this
    exact this
  have fa1_0 := Fe.refl a1
  have sd0 : Same U U.drew := Fr.drew (Fr.refl _ U)
  refine wp_seq (wp_seq ?_)
  refine wp_region_held_drew (ops := rNC2) (S := fun Z => (Z.cell? ⟨w.heap.size, 0, none⟩ = some (.slice r.pa N.ps.length r.cp) ∧ Z.cell? ⟨w.heap.size, 1, none⟩ = some (.slice r.sa N.ss.length r.cs) ∧ Z.cell? ⟨w.heap.size, 2, none⟩ = some (.slice r.ka N.ks.length r.ck)) ∧ (Z.cell? ⟨w.heap.size + 1, 0, none⟩ = some (.slice q.pa M.ps.length q.cp) ∧ Z.cell? ⟨w.heap.size + 1, 1, none⟩ = some (.slice q.sa M.ss.length q.cs) ∧ Z.cell? ⟨w.heap.size + 1, 2, none⟩ = some (.slice q.ka M.ks.length q.ck)) ∧ (Z.cell? ⟨b, 0, none⟩ = some (.slice xpa xpn xpc) ∧ Z.cell? ⟨b, 1, none⟩ = some (.slice xsa xsn xsc) ∧ Z.cell? ⟨b, 2, none⟩ = some (.slice xka xkn xkc)) ∧ Z.cell? ⟨d, 0, none⟩ = some (.slice ypa ypn ypc) ∧ Z.cell? ⟨d, 1, none⟩ = some (.slice ysa ysn ysc) ∧ Z.cell? ⟨d, 2, none⟩ = some (.slice yka ykn ykc)) (by kernel_rfl) (HC2.out _ sd0) (fun hS0 => ?_)
  have r_a1_1 : ∀ Z, (fun Z => (Z.cell? ⟨w.heap.size, 0, none⟩ = some (.slice r.pa N.ps.length r.cp) ∧ Z.cell? ⟨w.heap.size, 1, none⟩ = some (.slice r.sa N.ss.length r.cs) ∧ Z.cell? ⟨w.heap.size, 2, none⟩ = some (.slice r.ka N.ks.length r.ck)) ∧ (Z.cell? ⟨w.heap.size + 1, 0, none⟩ = some (.slice q.pa M.ps.length q.cp) ∧ Z.cell? ⟨w.heap.size + 1, 1, none⟩ = some (.slice q.sa M.ss.length q.cs) ∧ Z.cell? ⟨w.heap.size + 1, 2, none⟩ = some (.slice q.ka M.ks.length q.ck)) ∧ (Z.cell? ⟨b, 0, none⟩ = some (.slice xpa xpn xpc) ∧ Z.cell? ⟨b, 1, none⟩ = some (.slice xsa xsn xsc) ∧ Z.cell? ⟨b, 2, none⟩ = some (.slice xka xkn xkc)) ∧ Z.cell? ⟨d, 0, none⟩ = some (.slice ypa ypn ypc) ∧ Z.cell? ⟨d, 1, none⟩ = some (.slice ysa ysn ysc) ∧ Z.cell? ⟨d, 2, none⟩ = some (.slice yka ykn ykc)) Z → (execOp a1.eval { dst := some 13, op := Op.load 26 (Operand.tmp 5), type := 26, pos := "law.go:119", after := #[], guard := none }).run Try.prog Z = .ok (.value (.agg #[.slice xpa xpn xpc, .slice xsa xsn xsc, .slice xka xkn xkc])) Z := fun Z hZ => by
    obtain ⟨⟨az0, az1, az2⟩, ⟨bz0, bz1, bz2⟩, ⟨xz0, xz1, xz2⟩, yz0, yz1, yz2⟩ := hZ
    have e5 := (show a1.eval (.tmp 5) = .pointer (some ⟨b, 0, none⟩) from ((fa1_0.at_ 5).trans hF.s5))
    clear fa1_0 
    generalize a1.eval = ρ at *
    go_simp
  refine fa1_0.take 0 13 (.agg #[.slice xpa xpn xpc, .slice xsa xsn xsc, .slice xka xkn xkc]) rfl (by kernel_rfl) (by kernel_rfl) (by kernel_rfl) (fun _ _ _ h => h) rfl (lb_ hF.size) (wanted_none rfl) r_a1_1 hS0 (fun a1_1 fa1_1 => ?_)
  clear r_a1_1
  clear fa1_0
  have r_a1_2 : ∀ Z, (fun Z => (Z.cell? ⟨w.heap.size, 0, none⟩ = some (.slice r.pa N.ps.length r.cp) ∧ Z.cell? ⟨w.heap.size, 1, none⟩ = some (.slice r.sa N.ss.length r.cs) ∧ Z.cell? ⟨w.heap.size, 2, none⟩ = some (.slice r.ka N.ks.length r.ck)) ∧ (Z.cell? ⟨w.heap.size + 1, 0, none⟩ = some (.slice q.pa M.ps.length q.cp) ∧ Z.cell? ⟨w.heap.size + 1, 1, none⟩ = some (.slice q.sa M.ss.length q.cs) ∧ Z.cell? ⟨w.heap.size + 1, 2, none⟩ = some (.slice q.ka M.ks.length q.ck)) ∧ (Z.cell? ⟨b, 0, none⟩ = some (.slice xpa xpn xpc) ∧ Z.cell? ⟨b, 1, none⟩ = some (.slice xsa xsn xsc) ∧ Z.cell? ⟨b, 2, none⟩ = some (.slice xka xkn xkc)) ∧ Z.cell? ⟨d, 0, none⟩ = some (.slice ypa ypn ypc) ∧ Z.cell? ⟨d, 1, none⟩ = some (.slice ysa ysn ysc) ∧ Z.cell? ⟨d, 2, none⟩ = some (.slice yka ykn ykc)) Z → (execOp a1_1.eval { dst := some 14, op := Op.load 26 (Operand.tmp 6), type := 26, pos := "law.go:119", after := #[], guard := none }).run Try.prog Z = .ok (.value (.agg #[.slice ypa ypn ypc, .slice ysa ysn ysc, .slice yka ykn ykc])) Z := fun Z hZ => by
    obtain ⟨⟨az0, az1, az2⟩, ⟨bz0, bz1, bz2⟩, ⟨xz0, xz1, xz2⟩, yz0, yz1, yz2⟩ := hZ
    have e6 := (show a1_1.eval (.tmp 6) = .pointer (some ⟨d, 0, none⟩) from ((fa1_1.at_ 6).trans hF.s6))
    clear fa1_1 
    generalize a1_1.eval = ρ at *
    go_simp
  refine fa1_1.take 1 14 (.agg #[.slice ypa ypn ypc, .slice ysa ysn ysc, .slice yka ykn ykc]) rfl (by kernel_rfl) (by kernel_rfl) (by kernel_rfl) (fun _ _ _ h => h) rfl (lb_ hF.size) (wanted_none rfl) r_a1_2 hS0 (fun a1_2 fa1_2 => ?_)
  clear r_a1_2
  clear fa1_1
  have r_a1_3 : ∀ Z, (fun Z => (Z.cell? ⟨w.heap.size, 0, none⟩ = some (.slice r.pa N.ps.length r.cp) ∧ Z.cell? ⟨w.heap.size, 1, none⟩ = some (.slice r.sa N.ss.length r.cs) ∧ Z.cell? ⟨w.heap.size, 2, none⟩ = some (.slice r.ka N.ks.length r.ck)) ∧ (Z.cell? ⟨w.heap.size + 1, 0, none⟩ = some (.slice q.pa M.ps.length q.cp) ∧ Z.cell? ⟨w.heap.size + 1, 1, none⟩ = some (.slice q.sa M.ss.length q.cs) ∧ Z.cell? ⟨w.heap.size + 1, 2, none⟩ = some (.slice q.ka M.ks.length q.ck)) ∧ (Z.cell? ⟨b, 0, none⟩ = some (.slice xpa xpn xpc) ∧ Z.cell? ⟨b, 1, none⟩ = some (.slice xsa xsn xsc) ∧ Z.cell? ⟨b, 2, none⟩ = some (.slice xka xkn xkc)) ∧ Z.cell? ⟨d, 0, none⟩ = some (.slice ypa ypn ypc) ∧ Z.cell? ⟨d, 1, none⟩ = some (.slice ysa ysn ysc) ∧ Z.cell? ⟨d, 2, none⟩ = some (.slice yka ykn ykc)) Z → (execOp a1_2.eval { dst := some 16, op := Op.load 26 (Operand.tmp 2), type := 26, pos := "law.go:119", after := #[], guard := none }).run Try.prog Z = .ok (.value (.agg #[.slice r.pa N.ps.length r.cp, .slice r.sa N.ss.length r.cs, .slice r.ka N.ks.length r.ck])) Z := fun Z hZ => by
    obtain ⟨⟨az0, az1, az2⟩, ⟨bz0, bz1, bz2⟩, ⟨xz0, xz1, xz2⟩, yz0, yz1, yz2⟩ := hZ
    have e2 := (show a1_2.eval (.tmp 2) = .pointer (some ⟨w.heap.size, 0, none⟩) from ((fa1_2.at_ 2).trans hF.s2))
    clear fa1_2 
    generalize a1_2.eval = ρ at *
    go_simp
  refine fa1_2.take 3 16 (.agg #[.slice r.pa N.ps.length r.cp, .slice r.sa N.ss.length r.cs, .slice r.ka N.ks.length r.ck]) rfl (by kernel_rfl) (by kernel_rfl) (by kernel_rfl) (fun _ _ _ h => h) rfl (lb_ hF.size) (wanted_none rfl) r_a1_3 hS0 (fun a1_3 fa1_3 => ?_)
  clear r_a1_3
  clear fa1_2
  have r_a1_4 : ∀ Z, (fun Z => (Z.cell? ⟨w.heap.size, 0, none⟩ = some (.slice r.pa N.ps.length r.cp) ∧ Z.cell? ⟨w.heap.size, 1, none⟩ = some (.slice r.sa N.ss.length r.cs) ∧ Z.cell? ⟨w.heap.size, 2, none⟩ = some (.slice r.ka N.ks.length r.ck)) ∧ (Z.cell? ⟨w.heap.size + 1, 0, none⟩ = some (.slice q.pa M.ps.length q.cp) ∧ Z.cell? ⟨w.heap.size + 1, 1, none⟩ = some (.slice q.sa M.ss.length q.cs) ∧ Z.cell? ⟨w.heap.size + 1, 2, none⟩ = some (.slice q.ka M.ks.length q.ck)) ∧ (Z.cell? ⟨b, 0, none⟩ = some (.slice xpa xpn xpc) ∧ Z.cell? ⟨b, 1, none⟩ = some (.slice xsa xsn xsc) ∧ Z.cell? ⟨b, 2, none⟩ = some (.slice xka xkn xkc)) ∧ Z.cell? ⟨d, 0, none⟩ = some (.slice ypa ypn ypc) ∧ Z.cell? ⟨d, 1, none⟩ = some (.slice ysa ysn ysc) ∧ Z.cell? ⟨d, 2, none⟩ = some (.slice yka ykn ykc)) Z → (execOp a1_3.eval { dst := some 17, op := Op.load 26 (Operand.tmp 3), type := 26, pos := "law.go:119", after := #[], guard := none }).run Try.prog Z = .ok (.value (.agg #[.slice q.pa M.ps.length q.cp, .slice q.sa M.ss.length q.cs, .slice q.ka M.ks.length q.ck])) Z := fun Z hZ => by
    obtain ⟨⟨az0, az1, az2⟩, ⟨bz0, bz1, bz2⟩, ⟨xz0, xz1, xz2⟩, yz0, yz1, yz2⟩ := hZ
    have e3 := (show a1_3.eval (.tmp 3) = .pointer (some ⟨w.heap.size + 1, 0, none⟩) from ((fa1_3.at_ 3).trans hF.s3))
    clear fa1_3 
    generalize a1_3.eval = ρ at *
    go_simp
  refine fa1_3.take 4 17 (.agg #[.slice q.pa M.ps.length q.cp, .slice q.sa M.ss.length q.cs, .slice q.ka M.ks.length q.ck]) rfl (by kernel_rfl) (by kernel_rfl) (by kernel_rfl) (fun _ _ _ h => h) rfl (lb_ hF.size) (wanted_none rfl) r_a1_4 hS0 (fun a1_4 fa1_4 => ?_)
  clear r_a1_4
  clear fa1_3
  have r_a1_5 : (execOp a1_4.eval { dst := some 15, op := Op.call { callee := Callee.value (Operand.func 5), args := #[Operand.tmp 13, Operand.tmp 14], argTypes := #[26, 26] }, type := 4, pos := "law.go:119", after := #[{ on := 0, ground := Ground.data }, { on := 1, ground := Ground.data }], guard := none }).run Try.prog (U.drew) = .ok (.enter 5 #[.agg #[.slice xpa xpn xpc, .slice xsa xsn xsc, .slice xka xkn xkc], .agg #[.slice ypa ypn ypc, .slice ysa ysn ysc, .slice yka ykn ykc]]) (U.drew) := by
    have kf : ∀ f, a1_4.eval (.func f) = .func (.func f) #[] #[] := fun _ => rfl
    have e13 := (show a1_4.eval (.tmp 13) = .agg #[.slice xpa xpn xpc, .slice xsa xsn xsc, .slice xka xkn xkc] from (fa1_4.at_ 13))
    have e14 := (show a1_4.eval (.tmp 14) = .agg #[.slice ypa ypn ypc, .slice ysa ysn ysc, .slice yka ykn ykc] from (fa1_4.at_ 14))
    clear fa1_4 
    generalize a1_4.eval = ρ at *
    go_simp
  refine fa1_4.oneCall 2 15 (by kernel_rfl) rfl rfl (lb_ hF.size) (wanted_none rfl) r_a1_5 (HPS.out _ sd0) (fun e U1 hR => ?_)
  obtain ⟨q1, rfl, i1, s1⟩ := hR
  clear r_a1_5
  have hS5 : (fun Z => (Z.cell? ⟨w.heap.size, 0, none⟩ = some (.slice r.pa N.ps.length r.cp) ∧ Z.cell? ⟨w.heap.size, 1, none⟩ = some (.slice r.sa N.ss.length r.cs) ∧ Z.cell? ⟨w.heap.size, 2, none⟩ = some (.slice r.ka N.ks.length r.ck)) ∧ (Z.cell? ⟨w.heap.size + 1, 0, none⟩ = some (.slice q.pa M.ps.length q.cp) ∧ Z.cell? ⟨w.heap.size + 1, 1, none⟩ = some (.slice q.sa M.ss.length q.cs) ∧ Z.cell? ⟨w.heap.size + 1, 2, none⟩ = some (.slice q.ka M.ks.length q.ck)) ∧ (Z.cell? ⟨b, 0, none⟩ = some (.slice xpa xpn xpc) ∧ Z.cell? ⟨b, 1, none⟩ = some (.slice xsa xsn xsc) ∧ Z.cell? ⟨b, 2, none⟩ = some (.slice xka xkn xkc)) ∧ Z.cell? ⟨d, 0, none⟩ = some (.slice ypa ypn ypc) ∧ Z.cell? ⟨d, 1, none⟩ = some (.slice ysa ysn ysc) ∧ Z.cell? ⟨d, 2, none⟩ = some (.slice yka ykn ykc)) U1 := HC2.out _ (sd0.trans s1)
  refine ⟨_, rfl, hS5, fun a1_5 fa1_5 => ?_⟩
  clear fa1_4
  have r_a1_6 : (execOp a1_5.eval { dst := some 18, op := Op.call { callee := Callee.value (Operand.func 6), args := #[Operand.tmp 16, Operand.tmp 17], argTypes := #[26, 26] }, type := 4, pos := "law.go:119", after := #[{ on := 3, ground := Ground.data }, { on := 4, ground := Ground.data }, { on := 2, ground := Ground.chain }], guard := none }).run Try.prog (U1) = .ok (.enter 6 #[.agg #[.slice r.pa N.ps.length r.cp, .slice r.sa N.ss.length r.cs, .slice r.ka N.ks.length r.ck], .agg #[.slice q.pa M.ps.length q.cp, .slice q.sa M.ss.length q.cs, .slice q.ka M.ks.length q.ck]]) (U1) := by
    have kf : ∀ f, a1_5.eval (.func f) = .func (.func f) #[] #[] := fun _ => rfl
    have e16 := (show a1_5.eval (.tmp 16) = .agg #[.slice r.pa N.ps.length r.cp, .slice r.sa N.ss.length r.cs, .slice r.ka N.ks.length r.ck] from (fa1_5.at_ 16))
    have e17 := (show a1_5.eval (.tmp 17) = .agg #[.slice q.pa M.ps.length q.cp, .slice q.sa M.ss.length q.cs, .slice q.ka M.ks.length q.ck] from (fa1_5.at_ 17))
    clear fa1_5 
    generalize a1_5.eval = ρ at *
    go_simp
  refine fa1_5.oneCall 5 18 (by kernel_rfl) rfl rfl (lb_ hF.size) (wanted_none rfl) r_a1_6 (HRS.out _ (sd0.trans s1)) (fun e U2 hR => ?_)
  obtain ⟨q2, rfl, i2, s2⟩ := hR
  clear r_a1_6
  have hqq : q1 = q2 := Bool.eq_iff_iff.2 (i1.trans i2.symm)
  have t2 : Same U U2 := sd0.trans (s1.trans s2)
  clear i1 i2
  have hS6 : (fun Z => (Z.cell? ⟨w.heap.size, 0, none⟩ = some (.slice r.pa N.ps.length r.cp) ∧ Z.cell? ⟨w.heap.size, 1, none⟩ = some (.slice r.sa N.ss.length r.cs) ∧ Z.cell? ⟨w.heap.size, 2, none⟩ = some (.slice r.ka N.ks.length r.ck)) ∧ (Z.cell? ⟨w.heap.size + 1, 0, none⟩ = some (.slice q.pa M.ps.length q.cp) ∧ Z.cell? ⟨w.heap.size + 1, 1, none⟩ = some (.slice q.sa M.ss.length q.cs) ∧ Z.cell? ⟨w.heap.size + 1, 2, none⟩ = some (.slice q.ka M.ks.length q.ck)) ∧ (Z.cell? ⟨b, 0, none⟩ = some (.slice xpa xpn xpc) ∧ Z.cell? ⟨b, 1, none⟩ = some (.slice xsa xsn xsc) ∧ Z.cell? ⟨b, 2, none⟩ = some (.slice xka xkn xkc)) ∧ Z.cell? ⟨d, 0, none⟩ = some (.slice ypa ypn ypc) ∧ Z.cell? ⟨d, 1, none⟩ = some (.slice ysa ysn ysc) ∧ Z.cell? ⟨d, 2, none⟩ = some (.slice yka ykn ykc)) U2 := HC2.out _ (sd0.trans (s1.trans s2))
  refine ⟨_, rfl, hS6, fun a1_6 fa1_6 => ?_⟩
  clear fa1_5
  have r_a1_7 : ∀ Z, (fun Z => (Z.cell? ⟨w.heap.size, 0, none⟩ = some (.slice r.pa N.ps.length r.cp) ∧ Z.cell? ⟨w.heap.size, 1, none⟩ = some (.slice r.sa N.ss.length r.cs) ∧ Z.cell? ⟨w.heap.size, 2, none⟩ = some (.slice r.ka N.ks.length r.ck)) ∧ (Z.cell? ⟨w.heap.size + 1, 0, none⟩ = some (.slice q.pa M.ps.length q.cp) ∧ Z.cell? ⟨w.heap.size + 1, 1, none⟩ = some (.slice q.sa M.ss.length q.cs) ∧ Z.cell? ⟨w.heap.size + 1, 2, none⟩ = some (.slice q.ka M.ks.length q.ck)) ∧ (Z.cell? ⟨b, 0, none⟩ = some (.slice xpa xpn xpc) ∧ Z.cell? ⟨b, 1, none⟩ = some (.slice xsa xsn xsc) ∧ Z.cell? ⟨b, 2, none⟩ = some (.slice xka xkn xkc)) ∧ Z.cell? ⟨d, 0, none⟩ = some (.slice ypa ypn ypc) ∧ Z.cell? ⟨d, 1, none⟩ = some (.slice ysa ysn ysc) ∧ Z.cell? ⟨d, 2, none⟩ = some (.slice yka ykn ykc)) Z → (execOp a1_6.eval { dst := some 19, op := Op.binOp BinOp.neq 4 (Operand.tmp 15) (Operand.tmp 18) 4, type := 4, pos := "law.go:119", after := #[{ on := 2, ground := Ground.data }, { on := 5, ground := Ground.data }], guard := none }).run Try.prog Z = .ok (.value (.bool false)) Z := fun Z hZ => by
    have e15 := (show a1_6.eval (.tmp 15) = .bool q1 from (fa1_6.at_ 15))
    have e18 := (show a1_6.eval (.tmp 18) = .bool q2 from (fa1_6.at_ 18))
    clear fa1_6 
    generalize a1_6.eval = ρ at *
    go_simp
  refine fa1_6.take 6 19 (.bool false) rfl (by kernel_rfl) (by kernel_rfl) (by kernel_rfl) (fun _ _ _ h => h) rfl (lb_ hF.size) (wanted_none rfl) r_a1_7 hS6 (fun a1_7 fa1_7 => ?_)
  clear r_a1_7
  clear fa1_6
  refine fa1_7.takeMove 7 20 (.bool false) _ (Or.inl rfl) rfl (by kernel_rfl) (by kernel_rfl) (by kernel_rfl) (fun _ _ _ h => h) rfl (lb_ hF.size) (wanted_none rfl) (fa1_7.at_ 19) hS6 (fun a1_8 fa1_8 => ?_)
  clear fa1_7
  have r_a1_9 : ∀ Z, (fun Z => (Z.cell? ⟨w.heap.size, 0, none⟩ = some (.slice r.pa N.ps.length r.cp) ∧ Z.cell? ⟨w.heap.size, 1, none⟩ = some (.slice r.sa N.ss.length r.cs) ∧ Z.cell? ⟨w.heap.size, 2, none⟩ = some (.slice r.ka N.ks.length r.ck)) ∧ (Z.cell? ⟨w.heap.size + 1, 0, none⟩ = some (.slice q.pa M.ps.length q.cp) ∧ Z.cell? ⟨w.heap.size + 1, 1, none⟩ = some (.slice q.sa M.ss.length q.cs) ∧ Z.cell? ⟨w.heap.size + 1, 2, none⟩ = some (.slice q.ka M.ks.length q.ck)) ∧ (Z.cell? ⟨b, 0, none⟩ = some (.slice xpa xpn xpc) ∧ Z.cell? ⟨b, 1, none⟩ = some (.slice xsa xsn xsc) ∧ Z.cell? ⟨b, 2, none⟩ = some (.slice xka xkn xkc)) ∧ Z.cell? ⟨d, 0, none⟩ = some (.slice ypa ypn ypc) ∧ Z.cell? ⟨d, 1, none⟩ = some (.slice ysa ysn ysc) ∧ Z.cell? ⟨d, 2, none⟩ = some (.slice yka ykn ykc)) Z → (execOp a1_8.eval { dst := some 21, op := Op.load 26 (Operand.tmp 5), type := 26, pos := "law.go:119", after := #[{ on := 7, ground := Ground.guard }], guard := some (7, false) }).run Try.prog Z = .ok (.value (.agg #[.slice xpa xpn xpc, .slice xsa xsn xsc, .slice xka xkn xkc])) Z := fun Z hZ => by
    obtain ⟨⟨az0, az1, az2⟩, ⟨bz0, bz1, bz2⟩, ⟨xz0, xz1, xz2⟩, yz0, yz1, yz2⟩ := hZ
    have e5 := (show a1_8.eval (.tmp 5) = .pointer (some ⟨b, 0, none⟩) from ((fa1_8.at_ 5).trans hF.s5))
    clear fa1_8 
    generalize a1_8.eval = ρ at *
    go_simp
  refine fa1_8.take 8 21 (.agg #[.slice xpa xpn xpc, .slice xsa xsn xsc, .slice xka xkn xkc]) rfl (by kernel_rfl) (by kernel_rfl) (by kernel_rfl) (fun _ _ _ h => h) rfl (lb_ hF.size) ((wanted_at (t := 20) (c := false) (b := false) rfl rfl rfl (lb_ (fa1_8.size.trans hF.size)) (fa1_8.at_ 20)).trans (by rfl)) r_a1_9 hS6 (fun a1_9 fa1_9 => ?_)
  clear r_a1_9
  clear fa1_8
  have r_a1_10 : ∀ Z, (fun Z => (Z.cell? ⟨w.heap.size, 0, none⟩ = some (.slice r.pa N.ps.length r.cp) ∧ Z.cell? ⟨w.heap.size, 1, none⟩ = some (.slice r.sa N.ss.length r.cs) ∧ Z.cell? ⟨w.heap.size, 2, none⟩ = some (.slice r.ka N.ks.length r.ck)) ∧ (Z.cell? ⟨w.heap.size + 1, 0, none⟩ = some (.slice q.pa M.ps.length q.cp) ∧ Z.cell? ⟨w.heap.size + 1, 1, none⟩ = some (.slice q.sa M.ss.length q.cs) ∧ Z.cell? ⟨w.heap.size + 1, 2, none⟩ = some (.slice q.ka M.ks.length q.ck)) ∧ (Z.cell? ⟨b, 0, none⟩ = some (.slice xpa xpn xpc) ∧ Z.cell? ⟨b, 1, none⟩ = some (.slice xsa xsn xsc) ∧ Z.cell? ⟨b, 2, none⟩ = some (.slice xka xkn xkc)) ∧ Z.cell? ⟨d, 0, none⟩ = some (.slice ypa ypn ypc) ∧ Z.cell? ⟨d, 1, none⟩ = some (.slice ysa ysn ysc) ∧ Z.cell? ⟨d, 2, none⟩ = some (.slice yka ykn ykc)) Z → (execOp a1_9.eval { dst := some 22, op := Op.load 26 (Operand.tmp 5), type := 26, pos := "law.go:119", after := #[{ on := 7, ground := Ground.guard }], guard := some (7, false) }).run Try.prog Z = .ok (.value (.agg #[.slice xpa xpn xpc, .slice xsa xsn xsc, .slice xka xkn xkc])) Z := fun Z hZ => by
    obtain ⟨⟨az0, az1, az2⟩, ⟨bz0, bz1, bz2⟩, ⟨xz0, xz1, xz2⟩, yz0, yz1, yz2⟩ := hZ
    have e5 := (show a1_9.eval (.tmp 5) = .pointer (some ⟨b, 0, none⟩) from ((fa1_9.at_ 5).trans hF.s5))
    clear fa1_9 
    generalize a1_9.eval = ρ at *
    go_simp
  refine fa1_9.take 9 22 (.agg #[.slice xpa xpn xpc, .slice xsa xsn xsc, .slice xka xkn xkc]) rfl (by kernel_rfl) (by kernel_rfl) (by kernel_rfl) (fun _ _ _ h => h) rfl (lb_ hF.size) ((wanted_at (t := 20) (c := false) (b := false) rfl rfl rfl (lb_ (fa1_9.size.trans hF.size)) (fa1_9.at_ 20)).trans (by rfl)) r_a1_10 hS6 (fun a1_10 fa1_10 => ?_)
  clear r_a1_10
  clear fa1_9
  have r_a1_11 : (execOp a1_10.eval { dst := some 23, op := Op.call { callee := Callee.value (Operand.func 5), args := #[Operand.tmp 21, Operand.tmp 22], argTypes := #[26, 26] }, type := 4, pos := "law.go:119", after := #[{ on := 8, ground := Ground.data }, { on := 9, ground := Ground.data }, { on := 7, ground := Ground.chain }, { on := 7, ground := Ground.guard }], guard := some (7, false) }).run Try.prog (U2) = .ok (.enter 5 #[.agg #[.slice xpa xpn xpc, .slice xsa xsn xsc, .slice xka xkn xkc], .agg #[.slice xpa xpn xpc, .slice xsa xsn xsc, .slice xka xkn xkc]]) (U2) := by
    have kf : ∀ f, a1_10.eval (.func f) = .func (.func f) #[] #[] := fun _ => rfl
    have e21 := (show a1_10.eval (.tmp 21) = .agg #[.slice xpa xpn xpc, .slice xsa xsn xsc, .slice xka xkn xkc] from (fa1_10.at_ 21))
    have e22 := (show a1_10.eval (.tmp 22) = .agg #[.slice xpa xpn xpc, .slice xsa xsn xsc, .slice xka xkn xkc] from (fa1_10.at_ 22))
    clear fa1_10 
    generalize a1_10.eval = ρ at *
    go_simp
  refine fa1_10.oneCall 10 23 (by kernel_rfl) rfl rfl (lb_ hF.size) ((wanted_at (t := 20) (c := false) (b := false) rfl rfl rfl (lb_ (fa1_10.size.trans hF.size)) (fa1_10.at_ 20)).trans (by rfl)) r_a1_11 (HXX.out _ t2) (fun e U3 hR => ?_)
  obtain ⟨rfl, s3⟩ := hR
  clear r_a1_11
  have t3 := t2.trans s3
  have hS11 : (fun Z => (Z.cell? ⟨w.heap.size, 0, none⟩ = some (.slice r.pa N.ps.length r.cp) ∧ Z.cell? ⟨w.heap.size, 1, none⟩ = some (.slice r.sa N.ss.length r.cs) ∧ Z.cell? ⟨w.heap.size, 2, none⟩ = some (.slice r.ka N.ks.length r.ck)) ∧ (Z.cell? ⟨w.heap.size + 1, 0, none⟩ = some (.slice q.pa M.ps.length q.cp) ∧ Z.cell? ⟨w.heap.size + 1, 1, none⟩ = some (.slice q.sa M.ss.length q.cs) ∧ Z.cell? ⟨w.heap.size + 1, 2, none⟩ = some (.slice q.ka M.ks.length q.ck)) ∧ (Z.cell? ⟨b, 0, none⟩ = some (.slice xpa xpn xpc) ∧ Z.cell? ⟨b, 1, none⟩ = some (.slice xsa xsn xsc) ∧ Z.cell? ⟨b, 2, none⟩ = some (.slice xka xkn xkc)) ∧ Z.cell? ⟨d, 0, none⟩ = some (.slice ypa ypn ypc) ∧ Z.cell? ⟨d, 1, none⟩ = some (.slice ysa ysn ysc) ∧ Z.cell? ⟨d, 2, none⟩ = some (.slice yka ykn ykc)) U3 := HC2.out _ (t2.trans s3)
  refine ⟨_, rfl, hS11, fun a1_11 fa1_11 => ?_⟩
  clear fa1_10
  have r_a1_12 : ∀ Z, (fun Z => (Z.cell? ⟨w.heap.size, 0, none⟩ = some (.slice r.pa N.ps.length r.cp) ∧ Z.cell? ⟨w.heap.size, 1, none⟩ = some (.slice r.sa N.ss.length r.cs) ∧ Z.cell? ⟨w.heap.size, 2, none⟩ = some (.slice r.ka N.ks.length r.ck)) ∧ (Z.cell? ⟨w.heap.size + 1, 0, none⟩ = some (.slice q.pa M.ps.length q.cp) ∧ Z.cell? ⟨w.heap.size + 1, 1, none⟩ = some (.slice q.sa M.ss.length q.cs) ∧ Z.cell? ⟨w.heap.size + 1, 2, none⟩ = some (.slice q.ka M.ks.length q.ck)) ∧ (Z.cell? ⟨b, 0, none⟩ = some (.slice xpa xpn xpc) ∧ Z.cell? ⟨b, 1, none⟩ = some (.slice xsa xsn xsc) ∧ Z.cell? ⟨b, 2, none⟩ = some (.slice xka xkn xkc)) ∧ Z.cell? ⟨d, 0, none⟩ = some (.slice ypa ypn ypc) ∧ Z.cell? ⟨d, 1, none⟩ = some (.slice ysa ysn ysc) ∧ Z.cell? ⟨d, 2, none⟩ = some (.slice yka ykn ykc)) Z → (execOp a1_11.eval { dst := some 24, op := Op.unOp UnOp.not 4 (Operand.tmp 23), type := 4, pos := "law.go:119", after := #[{ on := 10, ground := Ground.data }, { on := 7, ground := Ground.guard }], guard := some (7, false) }).run Try.prog Z = .ok (.value (.bool false)) Z := fun Z hZ => by
    have e23 := (show a1_11.eval (.tmp 23) = .bool true from (fa1_11.at_ 23))
    clear fa1_11 
    generalize a1_11.eval = ρ at *
    go_simp
  refine fa1_11.take 11 24 (.bool false) rfl (by kernel_rfl) (by kernel_rfl) (by kernel_rfl) (fun _ _ _ h => h) rfl (lb_ hF.size) ((wanted_at (t := 20) (c := false) (b := false) rfl rfl rfl (lb_ (fa1_11.size.trans hF.size)) (fa1_11.at_ 20)).trans (by rfl)) r_a1_12 hS11 (fun a1_12 fa1_12 => ?_)
  clear r_a1_12
  clear fa1_11
  have r_a1_13 : ∀ Z, (fun Z => (Z.cell? ⟨w.heap.size, 0, none⟩ = some (.slice r.pa N.ps.length r.cp) ∧ Z.cell? ⟨w.heap.size, 1, none⟩ = some (.slice r.sa N.ss.length r.cs) ∧ Z.cell? ⟨w.heap.size, 2, none⟩ = some (.slice r.ka N.ks.length r.ck)) ∧ (Z.cell? ⟨w.heap.size + 1, 0, none⟩ = some (.slice q.pa M.ps.length q.cp) ∧ Z.cell? ⟨w.heap.size + 1, 1, none⟩ = some (.slice q.sa M.ss.length q.cs) ∧ Z.cell? ⟨w.heap.size + 1, 2, none⟩ = some (.slice q.ka M.ks.length q.ck)) ∧ (Z.cell? ⟨b, 0, none⟩ = some (.slice xpa xpn xpc) ∧ Z.cell? ⟨b, 1, none⟩ = some (.slice xsa xsn xsc) ∧ Z.cell? ⟨b, 2, none⟩ = some (.slice xka xkn xkc)) ∧ Z.cell? ⟨d, 0, none⟩ = some (.slice ypa ypn ypc) ∧ Z.cell? ⟨d, 1, none⟩ = some (.slice ysa ysn ysc) ∧ Z.cell? ⟨d, 2, none⟩ = some (.slice yka ykn ykc)) Z → (execOp a1_12.eval { dst := some 25, op := Op.pick (Operand.tmp 20) (Operand.const (Value.bool true)) (Operand.tmp 24), type := 4, pos := "law.go:119", after := #[{ on := 7, ground := Ground.data }, { on := 11, ground := Ground.data }], guard := none }).run Try.prog Z = .ok (.value (.bool false)) Z := fun Z hZ => by
    have kc : ∀ v, a1_12.eval (.const v) = v := fun _ => rfl
    have e20 := (show a1_12.eval (.tmp 20) = .bool false from (fa1_12.at_ 20))
    have e24 := (show a1_12.eval (.tmp 24) = .bool false from (fa1_12.at_ 24))
    clear fa1_12 
    generalize a1_12.eval = ρ at *
    go_simp
  refine fa1_12.take 12 25 (.bool false) rfl (by kernel_rfl) (by kernel_rfl) (by kernel_rfl) (fun _ _ _ h => h) rfl (lb_ hF.size) (wanted_none rfl) r_a1_13 hS11 (fun a1_13 fa1_13 => ?_)
  clear r_a1_13
  clear fa1_12
  refine fa1_13.takeMove 13 26 (.bool false) _ (Or.inl rfl) rfl (by kernel_rfl) (by kernel_rfl) (by kernel_rfl) (fun _ _ _ h => h) rfl (lb_ hF.size) (wanted_none rfl) (fa1_13.at_ 25) hS11 (fun a1_14 fa1_14 => ?_)
  clear fa1_13
  have r_a1_15 : ∀ Z, (fun Z => (Z.cell? ⟨w.heap.size, 0, none⟩ = some (.slice r.pa N.ps.length r.cp) ∧ Z.cell? ⟨w.heap.size, 1, none⟩ = some (.slice r.sa N.ss.length r.cs) ∧ Z.cell? ⟨w.heap.size, 2, none⟩ = some (.slice r.ka N.ks.length r.ck)) ∧ (Z.cell? ⟨w.heap.size + 1, 0, none⟩ = some (.slice q.pa M.ps.length q.cp) ∧ Z.cell? ⟨w.heap.size + 1, 1, none⟩ = some (.slice q.sa M.ss.length q.cs) ∧ Z.cell? ⟨w.heap.size + 1, 2, none⟩ = some (.slice q.ka M.ks.length q.ck)) ∧ (Z.cell? ⟨b, 0, none⟩ = some (.slice xpa xpn xpc) ∧ Z.cell? ⟨b, 1, none⟩ = some (.slice xsa xsn xsc) ∧ Z.cell? ⟨b, 2, none⟩ = some (.slice xka xkn xkc)) ∧ Z.cell? ⟨d, 0, none⟩ = some (.slice ypa ypn ypc) ∧ Z.cell? ⟨d, 1, none⟩ = some (.slice ysa ysn ysc) ∧ Z.cell? ⟨d, 2, none⟩ = some (.slice yka ykn ykc)) Z → (execOp a1_14.eval { dst := some 27, op := Op.load 26 (Operand.tmp 5), type := 26, pos := "law.go:119", after := #[{ on := 13, ground := Ground.guard }], guard := some (13, false) }).run Try.prog Z = .ok (.value (.agg #[.slice xpa xpn xpc, .slice xsa xsn xsc, .slice xka xkn xkc])) Z := fun Z hZ => by
    obtain ⟨⟨az0, az1, az2⟩, ⟨bz0, bz1, bz2⟩, ⟨xz0, xz1, xz2⟩, yz0, yz1, yz2⟩ := hZ
    have e5 := (show a1_14.eval (.tmp 5) = .pointer (some ⟨b, 0, none⟩) from ((fa1_14.at_ 5).trans hF.s5))
    clear fa1_14 
    generalize a1_14.eval = ρ at *
    go_simp
  refine fa1_14.take 14 27 (.agg #[.slice xpa xpn xpc, .slice xsa xsn xsc, .slice xka xkn xkc]) rfl (by kernel_rfl) (by kernel_rfl) (by kernel_rfl) (fun _ _ _ h => h) rfl (lb_ hF.size) ((wanted_at (t := 26) (c := false) (b := false) rfl rfl rfl (lb_ (fa1_14.size.trans hF.size)) (fa1_14.at_ 26)).trans (by rfl)) r_a1_15 hS11 (fun a1_15 fa1_15 => ?_)
  clear r_a1_15
  clear fa1_14
  have r_a1_16 : ∀ Z, (fun Z => (Z.cell? ⟨w.heap.size, 0, none⟩ = some (.slice r.pa N.ps.length r.cp) ∧ Z.cell? ⟨w.heap.size, 1, none⟩ = some (.slice r.sa N.ss.length r.cs) ∧ Z.cell? ⟨w.heap.size, 2, none⟩ = some (.slice r.ka N.ks.length r.ck)) ∧ (Z.cell? ⟨w.heap.size + 1, 0, none⟩ = some (.slice q.pa M.ps.length q.cp) ∧ Z.cell? ⟨w.heap.size + 1, 1, none⟩ = some (.slice q.sa M.ss.length q.cs) ∧ Z.cell? ⟨w.heap.size + 1, 2, none⟩ = some (.slice q.ka M.ks.length q.ck)) ∧ (Z.cell? ⟨b, 0, none⟩ = some (.slice xpa xpn xpc) ∧ Z.cell? ⟨b, 1, none⟩ = some (.slice xsa xsn xsc) ∧ Z.cell? ⟨b, 2, none⟩ = some (.slice xka xkn xkc)) ∧ Z.cell? ⟨d, 0, none⟩ = some (.slice ypa ypn ypc) ∧ Z.cell? ⟨d, 1, none⟩ = some (.slice ysa ysn ysc) ∧ Z.cell? ⟨d, 2, none⟩ = some (.slice yka ykn ykc)) Z → (execOp a1_15.eval { dst := some 28, op := Op.load 26 (Operand.tmp 2), type := 26, pos := "law.go:119", after := #[{ on := 13, ground := Ground.guard }], guard := some (13, false) }).run Try.prog Z = .ok (.value (.agg #[.slice r.pa N.ps.length r.cp, .slice r.sa N.ss.length r.cs, .slice r.ka N.ks.length r.ck])) Z := fun Z hZ => by
    obtain ⟨⟨az0, az1, az2⟩, ⟨bz0, bz1, bz2⟩, ⟨xz0, xz1, xz2⟩, yz0, yz1, yz2⟩ := hZ
    have e2 := (show a1_15.eval (.tmp 2) = .pointer (some ⟨w.heap.size, 0, none⟩) from ((fa1_15.at_ 2).trans hF.s2))
    clear fa1_15 
    generalize a1_15.eval = ρ at *
    go_simp
  refine fa1_15.take 15 28 (.agg #[.slice r.pa N.ps.length r.cp, .slice r.sa N.ss.length r.cs, .slice r.ka N.ks.length r.ck]) rfl (by kernel_rfl) (by kernel_rfl) (by kernel_rfl) (fun _ _ _ h => h) rfl (lb_ hF.size) ((wanted_at (t := 26) (c := false) (b := false) rfl rfl rfl (lb_ (fa1_15.size.trans hF.size)) (fa1_15.at_ 26)).trans (by rfl)) r_a1_16 hS11 (fun a1_16 fa1_16 => ?_)
  clear r_a1_16
  clear fa1_15
  have r_a1_17 : (execOp a1_16.eval { dst := some 29, op := Op.call { callee := Callee.value (Operand.func 7), args := #[Operand.tmp 27, Operand.tmp 28], argTypes := #[26, 26] }, type := 4, pos := "law.go:119", after := #[{ on := 14, ground := Ground.data }, { on := 15, ground := Ground.data }, { on := 13, ground := Ground.chain }, { on := 13, ground := Ground.guard }], guard := some (13, false) }).run Try.prog (U3) = .ok (.enter 7 #[.agg #[.slice xpa xpn xpc, .slice xsa xsn xsc, .slice xka xkn xkc], .agg #[.slice r.pa N.ps.length r.cp, .slice r.sa N.ss.length r.cs, .slice r.ka N.ks.length r.ck]]) (U3) := by
    have kf : ∀ f, a1_16.eval (.func f) = .func (.func f) #[] #[] := fun _ => rfl
    have e27 := (show a1_16.eval (.tmp 27) = .agg #[.slice xpa xpn xpc, .slice xsa xsn xsc, .slice xka xkn xkc] from (fa1_16.at_ 27))
    have e28 := (show a1_16.eval (.tmp 28) = .agg #[.slice r.pa N.ps.length r.cp, .slice r.sa N.ss.length r.cs, .slice r.ka N.ks.length r.ck] from (fa1_16.at_ 28))
    clear fa1_16 
    generalize a1_16.eval = ρ at *
    go_simp
  refine fa1_16.oneCall 16 29 (by kernel_rfl) rfl rfl (lb_ hF.size) ((wanted_at (t := 26) (c := false) (b := false) rfl rfl rfl (lb_ (fa1_16.size.trans hF.size)) (fa1_16.at_ 26)).trans (by rfl)) r_a1_17 (HKX.out _ t3) (fun e U4 hR => ?_)
  obtain ⟨rfl, s4⟩ := hR
  clear r_a1_17
  have t4 := t3.trans s4
  have hS17 : (fun Z => (Z.cell? ⟨w.heap.size, 0, none⟩ = some (.slice r.pa N.ps.length r.cp) ∧ Z.cell? ⟨w.heap.size, 1, none⟩ = some (.slice r.sa N.ss.length r.cs) ∧ Z.cell? ⟨w.heap.size, 2, none⟩ = some (.slice r.ka N.ks.length r.ck)) ∧ (Z.cell? ⟨w.heap.size + 1, 0, none⟩ = some (.slice q.pa M.ps.length q.cp) ∧ Z.cell? ⟨w.heap.size + 1, 1, none⟩ = some (.slice q.sa M.ss.length q.cs) ∧ Z.cell? ⟨w.heap.size + 1, 2, none⟩ = some (.slice q.ka M.ks.length q.ck)) ∧ (Z.cell? ⟨b, 0, none⟩ = some (.slice xpa xpn xpc) ∧ Z.cell? ⟨b, 1, none⟩ = some (.slice xsa xsn xsc) ∧ Z.cell? ⟨b, 2, none⟩ = some (.slice xka xkn xkc)) ∧ Z.cell? ⟨d, 0, none⟩ = some (.slice ypa ypn ypc) ∧ Z.cell? ⟨d, 1, none⟩ = some (.slice ysa ysn ysc) ∧ Z.cell? ⟨d, 2, none⟩ = some (.slice yka ykn ykc)) U4 := HC2.out _ (t3.trans s4)
  refine ⟨_, rfl, hS17, fun a1_17 fa1_17 => ?_⟩
  clear fa1_16
  have r_a1_18 : ∀ Z, (fun Z => (Z.cell? ⟨w.heap.size, 0, none⟩ = some (.slice r.pa N.ps.length r.cp) ∧ Z.cell? ⟨w.heap.size, 1, none⟩ = some (.slice r.sa N.ss.length r.cs) ∧ Z.cell? ⟨w.heap.size, 2, none⟩ = some (.slice r.ka N.ks.length r.ck)) ∧ (Z.cell? ⟨w.heap.size + 1, 0, none⟩ = some (.slice q.pa M.ps.length q.cp) ∧ Z.cell? ⟨w.heap.size + 1, 1, none⟩ = some (.slice q.sa M.ss.length q.cs) ∧ Z.cell? ⟨w.heap.size + 1, 2, none⟩ = some (.slice q.ka M.ks.length q.ck)) ∧ (Z.cell? ⟨b, 0, none⟩ = some (.slice xpa xpn xpc) ∧ Z.cell? ⟨b, 1, none⟩ = some (.slice xsa xsn xsc) ∧ Z.cell? ⟨b, 2, none⟩ = some (.slice xka xkn xkc)) ∧ Z.cell? ⟨d, 0, none⟩ = some (.slice ypa ypn ypc) ∧ Z.cell? ⟨d, 1, none⟩ = some (.slice ysa ysn ysc) ∧ Z.cell? ⟨d, 2, none⟩ = some (.slice yka ykn ykc)) Z → (execOp a1_17.eval { dst := some 30, op := Op.unOp UnOp.not 4 (Operand.tmp 29), type := 4, pos := "law.go:119", after := #[{ on := 16, ground := Ground.data }, { on := 13, ground := Ground.guard }], guard := some (13, false) }).run Try.prog Z = .ok (.value (.bool false)) Z := fun Z hZ => by
    have e29 := (show a1_17.eval (.tmp 29) = .bool true from (fa1_17.at_ 29))
    clear fa1_17 
    generalize a1_17.eval = ρ at *
    go_simp
  refine fa1_17.take 17 30 (.bool false) rfl (by kernel_rfl) (by kernel_rfl) (by kernel_rfl) (fun _ _ _ h => h) rfl (lb_ hF.size) ((wanted_at (t := 26) (c := false) (b := false) rfl rfl rfl (lb_ (fa1_17.size.trans hF.size)) (fa1_17.at_ 26)).trans (by rfl)) r_a1_18 hS17 (fun a1_18 fa1_18 => ?_)
  clear r_a1_18
  clear fa1_17
  have r_a1_19 : ∀ Z, (fun Z => (Z.cell? ⟨w.heap.size, 0, none⟩ = some (.slice r.pa N.ps.length r.cp) ∧ Z.cell? ⟨w.heap.size, 1, none⟩ = some (.slice r.sa N.ss.length r.cs) ∧ Z.cell? ⟨w.heap.size, 2, none⟩ = some (.slice r.ka N.ks.length r.ck)) ∧ (Z.cell? ⟨w.heap.size + 1, 0, none⟩ = some (.slice q.pa M.ps.length q.cp) ∧ Z.cell? ⟨w.heap.size + 1, 1, none⟩ = some (.slice q.sa M.ss.length q.cs) ∧ Z.cell? ⟨w.heap.size + 1, 2, none⟩ = some (.slice q.ka M.ks.length q.ck)) ∧ (Z.cell? ⟨b, 0, none⟩ = some (.slice xpa xpn xpc) ∧ Z.cell? ⟨b, 1, none⟩ = some (.slice xsa xsn xsc) ∧ Z.cell? ⟨b, 2, none⟩ = some (.slice xka xkn xkc)) ∧ Z.cell? ⟨d, 0, none⟩ = some (.slice ypa ypn ypc) ∧ Z.cell? ⟨d, 1, none⟩ = some (.slice ysa ysn ysc) ∧ Z.cell? ⟨d, 2, none⟩ = some (.slice yka ykn ykc)) Z → (execOp a1_18.eval { dst := some 31, op := Op.pick (Operand.tmp 26) (Operand.const (Value.bool true)) (Operand.tmp 30), type := 4, pos := "law.go:119", after := #[{ on := 13, ground := Ground.data }, { on := 17, ground := Ground.data }], guard := none }).run Try.prog Z = .ok (.value (.bool false)) Z := fun Z hZ => by
    have kc : ∀ v, a1_18.eval (.const v) = v := fun _ => rfl
    have e26 := (show a1_18.eval (.tmp 26) = .bool false from (fa1_18.at_ 26))
    have e30 := (show a1_18.eval (.tmp 30) = .bool false from (fa1_18.at_ 30))
    clear fa1_18 
    generalize a1_18.eval = ρ at *
    go_simp
  refine fa1_18.take 18 31 (.bool false) rfl (by kernel_rfl) (by kernel_rfl) (by kernel_rfl) (fun _ _ _ h => h) rfl (lb_ hF.size) (wanted_none rfl) r_a1_19 hS17 (fun a1_19 fa1_19 => ?_)
  clear r_a1_19
  clear fa1_18
  refine fa1_19.takeMove 19 32 (.bool false) _ (Or.inl rfl) rfl (by kernel_rfl) (by kernel_rfl) (by kernel_rfl) (fun _ _ _ h => h) rfl (lb_ hF.size) (wanted_none rfl) (fa1_19.at_ 31) hS17 (fun a1_20 fa1_20 => ?_)
  clear fa1_19
  have r_a1_21 : ∀ Z, (fun Z => (Z.cell? ⟨w.heap.size, 0, none⟩ = some (.slice r.pa N.ps.length r.cp) ∧ Z.cell? ⟨w.heap.size, 1, none⟩ = some (.slice r.sa N.ss.length r.cs) ∧ Z.cell? ⟨w.heap.size, 2, none⟩ = some (.slice r.ka N.ks.length r.ck)) ∧ (Z.cell? ⟨w.heap.size + 1, 0, none⟩ = some (.slice q.pa M.ps.length q.cp) ∧ Z.cell? ⟨w.heap.size + 1, 1, none⟩ = some (.slice q.sa M.ss.length q.cs) ∧ Z.cell? ⟨w.heap.size + 1, 2, none⟩ = some (.slice q.ka M.ks.length q.ck)) ∧ (Z.cell? ⟨b, 0, none⟩ = some (.slice xpa xpn xpc) ∧ Z.cell? ⟨b, 1, none⟩ = some (.slice xsa xsn xsc) ∧ Z.cell? ⟨b, 2, none⟩ = some (.slice xka xkn xkc)) ∧ Z.cell? ⟨d, 0, none⟩ = some (.slice ypa ypn ypc) ∧ Z.cell? ⟨d, 1, none⟩ = some (.slice ysa ysn ysc) ∧ Z.cell? ⟨d, 2, none⟩ = some (.slice yka ykn ykc)) Z → (execOp a1_20.eval { dst := some 33, op := Op.load 26 (Operand.tmp 6), type := 26, pos := "law.go:119", after := #[{ on := 19, ground := Ground.guard }], guard := some (19, false) }).run Try.prog Z = .ok (.value (.agg #[.slice ypa ypn ypc, .slice ysa ysn ysc, .slice yka ykn ykc])) Z := fun Z hZ => by
    obtain ⟨⟨az0, az1, az2⟩, ⟨bz0, bz1, bz2⟩, ⟨xz0, xz1, xz2⟩, yz0, yz1, yz2⟩ := hZ
    have e6 := (show a1_20.eval (.tmp 6) = .pointer (some ⟨d, 0, none⟩) from ((fa1_20.at_ 6).trans hF.s6))
    clear fa1_20 
    generalize a1_20.eval = ρ at *
    go_simp
  refine fa1_20.take 20 33 (.agg #[.slice ypa ypn ypc, .slice ysa ysn ysc, .slice yka ykn ykc]) rfl (by kernel_rfl) (by kernel_rfl) (by kernel_rfl) (fun _ _ _ h => h) rfl (lb_ hF.size) ((wanted_at (t := 32) (c := false) (b := false) rfl rfl rfl (lb_ (fa1_20.size.trans hF.size)) (fa1_20.at_ 32)).trans (by rfl)) r_a1_21 hS17 (fun a1_21 fa1_21 => ?_)
  clear r_a1_21
  clear fa1_20
  have r_a1_22 : ∀ Z, (fun Z => (Z.cell? ⟨w.heap.size, 0, none⟩ = some (.slice r.pa N.ps.length r.cp) ∧ Z.cell? ⟨w.heap.size, 1, none⟩ = some (.slice r.sa N.ss.length r.cs) ∧ Z.cell? ⟨w.heap.size, 2, none⟩ = some (.slice r.ka N.ks.length r.ck)) ∧ (Z.cell? ⟨w.heap.size + 1, 0, none⟩ = some (.slice q.pa M.ps.length q.cp) ∧ Z.cell? ⟨w.heap.size + 1, 1, none⟩ = some (.slice q.sa M.ss.length q.cs) ∧ Z.cell? ⟨w.heap.size + 1, 2, none⟩ = some (.slice q.ka M.ks.length q.ck)) ∧ (Z.cell? ⟨b, 0, none⟩ = some (.slice xpa xpn xpc) ∧ Z.cell? ⟨b, 1, none⟩ = some (.slice xsa xsn xsc) ∧ Z.cell? ⟨b, 2, none⟩ = some (.slice xka xkn xkc)) ∧ Z.cell? ⟨d, 0, none⟩ = some (.slice ypa ypn ypc) ∧ Z.cell? ⟨d, 1, none⟩ = some (.slice ysa ysn ysc) ∧ Z.cell? ⟨d, 2, none⟩ = some (.slice yka ykn ykc)) Z → (execOp a1_21.eval { dst := some 34, op := Op.load 26 (Operand.tmp 3), type := 26, pos := "law.go:119", after := #[{ on := 19, ground := Ground.guard }], guard := some (19, false) }).run Try.prog Z = .ok (.value (.agg #[.slice q.pa M.ps.length q.cp, .slice q.sa M.ss.length q.cs, .slice q.ka M.ks.length q.ck])) Z := fun Z hZ => by
    obtain ⟨⟨az0, az1, az2⟩, ⟨bz0, bz1, bz2⟩, ⟨xz0, xz1, xz2⟩, yz0, yz1, yz2⟩ := hZ
    have e3 := (show a1_21.eval (.tmp 3) = .pointer (some ⟨w.heap.size + 1, 0, none⟩) from ((fa1_21.at_ 3).trans hF.s3))
    clear fa1_21 
    generalize a1_21.eval = ρ at *
    go_simp
  refine fa1_21.take 21 34 (.agg #[.slice q.pa M.ps.length q.cp, .slice q.sa M.ss.length q.cs, .slice q.ka M.ks.length q.ck]) rfl (by kernel_rfl) (by kernel_rfl) (by kernel_rfl) (fun _ _ _ h => h) rfl (lb_ hF.size) ((wanted_at (t := 32) (c := false) (b := false) rfl rfl rfl (lb_ (fa1_21.size.trans hF.size)) (fa1_21.at_ 32)).trans (by rfl)) r_a1_22 hS17 (fun a1_22 fa1_22 => ?_)
  clear r_a1_22
  clear fa1_21
  have r_a1_23 : (execOp a1_22.eval { dst := some 35, op := Op.call { callee := Callee.value (Operand.func 7), args := #[Operand.tmp 33, Operand.tmp 34], argTypes := #[26, 26] }, type := 4, pos := "law.go:119", after := #[{ on := 20, ground := Ground.data }, { on := 21, ground := Ground.data }, { on := 19, ground := Ground.chain }, { on := 19, ground := Ground.guard }], guard := some (19, false) }).run Try.prog (U4) = .ok (.enter 7 #[.agg #[.slice ypa ypn ypc, .slice ysa ysn ysc, .slice yka ykn ykc], .agg #[.slice q.pa M.ps.length q.cp, .slice q.sa M.ss.length q.cs, .slice q.ka M.ks.length q.ck]]) (U4) := by
    have kf : ∀ f, a1_22.eval (.func f) = .func (.func f) #[] #[] := fun _ => rfl
    have e33 := (show a1_22.eval (.tmp 33) = .agg #[.slice ypa ypn ypc, .slice ysa ysn ysc, .slice yka ykn ykc] from (fa1_22.at_ 33))
    have e34 := (show a1_22.eval (.tmp 34) = .agg #[.slice q.pa M.ps.length q.cp, .slice q.sa M.ss.length q.cs, .slice q.ka M.ks.length q.ck] from (fa1_22.at_ 34))
    clear fa1_22 
    generalize a1_22.eval = ρ at *
    go_simp
  refine fa1_22.oneCall 22 35 (by kernel_rfl) rfl rfl (lb_ hF.size) ((wanted_at (t := 32) (c := false) (b := false) rfl rfl rfl (lb_ (fa1_22.size.trans hF.size)) (fa1_22.at_ 32)).trans (by rfl)) r_a1_23 (HKY.out _ t4) (fun e U5 hR => ?_)
  obtain ⟨rfl, s5⟩ := hR
  clear r_a1_23
  have t5 := t4.trans s5
  have hS23 : (fun Z => (Z.cell? ⟨w.heap.size, 0, none⟩ = some (.slice r.pa N.ps.length r.cp) ∧ Z.cell? ⟨w.heap.size, 1, none⟩ = some (.slice r.sa N.ss.length r.cs) ∧ Z.cell? ⟨w.heap.size, 2, none⟩ = some (.slice r.ka N.ks.length r.ck)) ∧ (Z.cell? ⟨w.heap.size + 1, 0, none⟩ = some (.slice q.pa M.ps.length q.cp) ∧ Z.cell? ⟨w.heap.size + 1, 1, none⟩ = some (.slice q.sa M.ss.length q.cs) ∧ Z.cell? ⟨w.heap.size + 1, 2, none⟩ = some (.slice q.ka M.ks.length q.ck)) ∧ (Z.cell? ⟨b, 0, none⟩ = some (.slice xpa xpn xpc) ∧ Z.cell? ⟨b, 1, none⟩ = some (.slice xsa xsn xsc) ∧ Z.cell? ⟨b, 2, none⟩ = some (.slice xka xkn xkc)) ∧ Z.cell? ⟨d, 0, none⟩ = some (.slice ypa ypn ypc) ∧ Z.cell? ⟨d, 1, none⟩ = some (.slice ysa ysn ysc) ∧ Z.cell? ⟨d, 2, none⟩ = some (.slice yka ykn ykc)) U5 := HC2.out _ (t4.trans s5)
  refine ⟨_, rfl, hS23, fun a1_23 fa1_23 => ?_⟩
  clear fa1_22
  have r_a1_24 : ∀ Z, (fun Z => (Z.cell? ⟨w.heap.size, 0, none⟩ = some (.slice r.pa N.ps.length r.cp) ∧ Z.cell? ⟨w.heap.size, 1, none⟩ = some (.slice r.sa N.ss.length r.cs) ∧ Z.cell? ⟨w.heap.size, 2, none⟩ = some (.slice r.ka N.ks.length r.ck)) ∧ (Z.cell? ⟨w.heap.size + 1, 0, none⟩ = some (.slice q.pa M.ps.length q.cp) ∧ Z.cell? ⟨w.heap.size + 1, 1, none⟩ = some (.slice q.sa M.ss.length q.cs) ∧ Z.cell? ⟨w.heap.size + 1, 2, none⟩ = some (.slice q.ka M.ks.length q.ck)) ∧ (Z.cell? ⟨b, 0, none⟩ = some (.slice xpa xpn xpc) ∧ Z.cell? ⟨b, 1, none⟩ = some (.slice xsa xsn xsc) ∧ Z.cell? ⟨b, 2, none⟩ = some (.slice xka xkn xkc)) ∧ Z.cell? ⟨d, 0, none⟩ = some (.slice ypa ypn ypc) ∧ Z.cell? ⟨d, 1, none⟩ = some (.slice ysa ysn ysc) ∧ Z.cell? ⟨d, 2, none⟩ = some (.slice yka ykn ykc)) Z → (execOp a1_23.eval { dst := some 36, op := Op.unOp UnOp.not 4 (Operand.tmp 35), type := 4, pos := "law.go:119", after := #[{ on := 22, ground := Ground.data }, { on := 19, ground := Ground.guard }], guard := some (19, false) }).run Try.prog Z = .ok (.value (.bool false)) Z := fun Z hZ => by
    have e35 := (show a1_23.eval (.tmp 35) = .bool true from (fa1_23.at_ 35))
    clear fa1_23 
    generalize a1_23.eval = ρ at *
    go_simp
  refine fa1_23.take 23 36 (.bool false) rfl (by kernel_rfl) (by kernel_rfl) (by kernel_rfl) (fun _ _ _ h => h) rfl (lb_ hF.size) ((wanted_at (t := 32) (c := false) (b := false) rfl rfl rfl (lb_ (fa1_23.size.trans hF.size)) (fa1_23.at_ 32)).trans (by rfl)) r_a1_24 hS23 (fun a1_24 fa1_24 => ?_)
  clear r_a1_24
  clear fa1_23
  have r_a1_25 : ∀ Z, (fun Z => (Z.cell? ⟨w.heap.size, 0, none⟩ = some (.slice r.pa N.ps.length r.cp) ∧ Z.cell? ⟨w.heap.size, 1, none⟩ = some (.slice r.sa N.ss.length r.cs) ∧ Z.cell? ⟨w.heap.size, 2, none⟩ = some (.slice r.ka N.ks.length r.ck)) ∧ (Z.cell? ⟨w.heap.size + 1, 0, none⟩ = some (.slice q.pa M.ps.length q.cp) ∧ Z.cell? ⟨w.heap.size + 1, 1, none⟩ = some (.slice q.sa M.ss.length q.cs) ∧ Z.cell? ⟨w.heap.size + 1, 2, none⟩ = some (.slice q.ka M.ks.length q.ck)) ∧ (Z.cell? ⟨b, 0, none⟩ = some (.slice xpa xpn xpc) ∧ Z.cell? ⟨b, 1, none⟩ = some (.slice xsa xsn xsc) ∧ Z.cell? ⟨b, 2, none⟩ = some (.slice xka xkn xkc)) ∧ Z.cell? ⟨d, 0, none⟩ = some (.slice ypa ypn ypc) ∧ Z.cell? ⟨d, 1, none⟩ = some (.slice ysa ysn ysc) ∧ Z.cell? ⟨d, 2, none⟩ = some (.slice yka ykn ykc)) Z → (execOp a1_24.eval { dst := some 37, op := Op.pick (Operand.tmp 32) (Operand.const (Value.bool true)) (Operand.tmp 36), type := 4, pos := "law.go:119", after := #[{ on := 19, ground := Ground.data }, { on := 23, ground := Ground.data }], guard := none }).run Try.prog Z = .ok (.value (.bool false)) Z := fun Z hZ => by
    have kc : ∀ v, a1_24.eval (.const v) = v := fun _ => rfl
    have e32 := (show a1_24.eval (.tmp 32) = .bool false from (fa1_24.at_ 32))
    have e36 := (show a1_24.eval (.tmp 36) = .bool false from (fa1_24.at_ 36))
    clear fa1_24 
    generalize a1_24.eval = ρ at *
    go_simp
  refine fa1_24.take 24 37 (.bool false) rfl (by kernel_rfl) (by kernel_rfl) (by kernel_rfl) (fun _ _ _ h => h) rfl (lb_ hF.size) (wanted_none rfl) r_a1_25 hS23 (fun a1_25 fa1_25 => ?_)
  clear r_a1_25
  clear fa1_24
  refine wpAnyH_done (by kernel_rfl) ?_ _
  change Code.wp _ _ _ _ _
  refine wp_cond_false (show a1_25.eval (.tmp 37) = .bool false from (fa1_25.at_ 37)) (wp_skip ?_)
  change Code.wp _ _ _ _ _
  refine wp_seq ?_
  obtain ⟨⟨az0, az1, az2⟩, ⟨bz0, bz1, bz2⟩, ⟨xz0, xz1, xz2⟩, yz0, yz1, yz2⟩ := HC2.out _ t5
  have xb5 := (t5.block _ (lt_of_heap hF.hx) (fun f => f)).trans hF.hx
  refine wp_region_list ?_
  unfold rNC4
  have r_a1_26 : (execOp a1_25.eval { dst := some 38, op := Op.load 26 (Operand.tmp 5), type := 26, pos := "law.go:122", after := #[], guard := none }).run Try.prog (U5) = .ok (.value (.agg #[.slice xpa xpn xpc, .slice xsa xsn xsc, .slice xka xkn xkc])) (U5) := by
    have e5 := (show a1_25.eval (.tmp 5) = .pointer (some ⟨b, 0, none⟩) from ((fa1_25.at_ 5).trans hF.s5))
    clear fa1_25 
    generalize a1_25.eval = ρ at *
    go_simp
  refine fa1_25.step 38 (.agg #[.slice xpa xpn xpc, .slice xsa xsn xsc, .slice xka xkn xkc]) rfl (lb_ hF.size) (wanted_none rfl) r_a1_26 (fun a1_26 fa1_26 => ?_)
  clear r_a1_26
  clear fa1_25
  have r_a1_27 : (execOp a1_26.eval { dst := some 39, op := Op.call { callee := Callee.value (Operand.func 8), args := #[Operand.tmp 38], argTypes := #[26] }, type := 26, pos := "law.go:122", after := #[{ on := 0, ground := Ground.data }], guard := none }).run Try.prog (U5) = .ok (.enter 8 #[.agg #[.slice xpa xpn xpc, .slice xsa xsn xsc, .slice xka xkn xkc]]) (U5) := by
    have kf : ∀ f, a1_26.eval (.func f) = .func (.func f) #[] #[] := fun _ => rfl
    have e38 := (show a1_26.eval (.tmp 38) = .agg #[.slice xpa xpn xpc, .slice xsa xsn xsc, .slice xka xkn xkc] from (fa1_26.at_ 38))
    clear fa1_26 
    generalize a1_26.eval = ρ at *
    go_simp
  refine fa1_26.call 39 rfl (lb_ hF.size) (wanted_none rfl) r_a1_27 (HCP.out _ t5) (fun e B1 hR => ?_)
  obtain ⟨c1, rfl, hc1, s6⟩ := hR
  clear r_a1_27
  refine ⟨_, rfl, fun a1_27 fa1_27 => ?_⟩
  clear fa1_26
  have r_a1_28 : (execOp a1_27.eval { dst := some 7, op := Op.alloc 26, type := 0, pos := "law.go:122", after := #[], guard := none }).run Try.prog (B1) = .ok (.value (.pointer (some ⟨B1.heap.size, 0, none⟩))) (B1.alloc (.cells #[.slice none 0 0, .slice none 0 0, .slice none 0 0] 26)) := by
    clear fa1_27 
    generalize a1_27.eval = ρ at *
    go_simp
  refine fa1_27.stepW 7 (.pointer (some ⟨B1.heap.size, 0, none⟩)) rfl (lb_ hF.size) (wanted_none rfl) r_a1_28 (fun a1_28 fa1_28 => ?_)
  clear r_a1_28
  clear fa1_27
  have r_a1_29 : (execOp a1_28.eval { dst := none, op := Op.store 26 (Operand.tmp 7) (Operand.tmp 39), type := 0, pos := "law.go:122", after := #[{ on := 2, ground := Ground.data }, { on := 1, ground := Ground.data }, { on := 1, ground := Ground.chain }, { on := 0, ground := Ground.phase }, { on := 1, ground := Ground.phase }, { on := 2, ground := Ground.phase }], guard := none }).run Try.prog (B1.alloc (.cells #[.slice none 0 0, .slice none 0 0, .slice none 0 0] 26)) = .ok .skip (B1.alloc (.cells #[.slice c1.pa N.ps.length c1.cp, .slice c1.sa N.ss.length c1.cs, .slice c1.ka N.ks.length c1.ck] 26)) := by
    have e7 := (show a1_28.eval (.tmp 7) = .pointer (some ⟨B1.heap.size, 0, none⟩) from (fa1_28.at_ 7))
    have e39 := (show a1_28.eval (.tmp 39) = .agg #[.slice c1.pa N.ps.length c1.cp, .slice c1.sa N.ss.length c1.cs, .slice c1.ka N.ks.length c1.ck] from (fa1_28.at_ 39))
    clear fa1_28 
    generalize a1_28.eval = ρ at *
    go_simp
  refine fa1_28.store rfl (wanted_none rfl) r_a1_29 (fun a1_29 fa1_29 => ?_)
  clear r_a1_29
  clear fa1_28
  refine wpList_nil ?_
  obtain ⟨B2, hB2⟩ : ∃ B2, B2 = B1.alloc (.cells #[.slice c1.pa N.ps.length c1.cp, .slice c1.sa N.ss.length c1.cs, .slice c1.ka N.ks.length c1.ck] 26) := ⟨_, rfl⟩
  rw [← hB2]
  have sB : Same B1 B2 := by rw [hB2]; exact (Fr.refl _ B1).alloc _
  have hbC : B2.heap[B1.heap.size]? = some (.cells #[.slice c1.pa N.ps.length c1.cp, .slice c1.sa N.ss.length c1.cs, .slice c1.ka N.ks.length c1.ck] 26 (0, 0)) := by rw [hB2]; exact heap_alloc_new B1 _
  clear hB2
  have t6 : Same U B2 := t5.trans (s6.trans sB)
  clear az0 az1 az2 bz0 bz1 bz2 xz0 xz1 xz2 yz0 yz1 yz2
  obtain ⟨⟨az0, az1, az2⟩, ⟨bz0, bz1, bz2⟩, ⟨xz0, xz1, xz2⟩, yz0, yz1, yz2⟩ := HC2.out _ t6
  change Code.wp _ _ _ _ _
  refine wp_seq ?_
  refine wp_region_list ?_
  unfold rNC5
  have r_a1_30 : (execOp a1_29.eval { dst := some 40, op := Op.load 26 (Operand.tmp 5), type := 26, pos := "law.go:123", after := #[], guard := none }).run Try.prog (B2) = .ok (.value (.agg #[.slice xpa xpn xpc, .slice xsa xsn xsc, .slice xka xkn xkc])) (B2) := by
    have e5 := (show a1_29.eval (.tmp 5) = .pointer (some ⟨b, 0, none⟩) from ((fa1_29.at_ 5).trans hF.s5))
    clear fa1_29 
    generalize a1_29.eval = ρ at *
    go_simp
  refine fa1_29.step 40 (.agg #[.slice xpa xpn xpc, .slice xsa xsn xsc, .slice xka xkn xkc]) rfl (lb_ hF.size) (wanted_none rfl) r_a1_30 (fun a1_30 fa1_30 => ?_)
  clear r_a1_30
  clear fa1_29
  have r_a1_31 : (execOp a1_30.eval { dst := some 41, op := Op.call { callee := Callee.value (Operand.func 8), args := #[Operand.tmp 40], argTypes := #[26] }, type := 26, pos := "law.go:123", after := #[{ on := 0, ground := Ground.data }], guard := none }).run Try.prog (B2) = .ok (.enter 8 #[.agg #[.slice xpa xpn xpc, .slice xsa xsn xsc, .slice xka xkn xkc]]) (B2) := by
    have kf : ∀ f, a1_30.eval (.func f) = .func (.func f) #[] #[] := fun _ => rfl
    have e40 := (show a1_30.eval (.tmp 40) = .agg #[.slice xpa xpn xpc, .slice xsa xsn xsc, .slice xka xkn xkc] from (fa1_30.at_ 40))
    clear fa1_30 
    generalize a1_30.eval = ρ at *
    go_simp
  refine fa1_30.call 41 rfl (lb_ hF.size) (wanted_none rfl) r_a1_31 (HCP.out _ t6) (fun e C1 hR => ?_)
  obtain ⟨c2, rfl, hc2, s7⟩ := hR
  clear r_a1_31
  refine ⟨_, rfl, fun a1_31 fa1_31 => ?_⟩
  clear fa1_30
  have r_a1_32 : (execOp a1_31.eval { dst := some 8, op := Op.alloc 26, type := 0, pos := "law.go:123", after := #[], guard := none }).run Try.prog (C1) = .ok (.value (.pointer (some ⟨C1.heap.size, 0, none⟩))) (C1.alloc (.cells #[.slice none 0 0, .slice none 0 0, .slice none 0 0] 26)) := by
    clear fa1_31 
    generalize a1_31.eval = ρ at *
    go_simp
  refine fa1_31.stepW 8 (.pointer (some ⟨C1.heap.size, 0, none⟩)) rfl (lb_ hF.size) (wanted_none rfl) r_a1_32 (fun a1_32 fa1_32 => ?_)
  clear r_a1_32
  clear fa1_31
  have r_a1_33 : (execOp a1_32.eval { dst := none, op := Op.store 26 (Operand.tmp 8) (Operand.tmp 41), type := 0, pos := "law.go:123", after := #[{ on := 2, ground := Ground.data }, { on := 1, ground := Ground.data }, { on := 1, ground := Ground.chain }, { on := 0, ground := Ground.phase }, { on := 1, ground := Ground.phase }, { on := 2, ground := Ground.phase }], guard := none }).run Try.prog (C1.alloc (.cells #[.slice none 0 0, .slice none 0 0, .slice none 0 0] 26)) = .ok .skip (C1.alloc (.cells #[.slice c2.pa N.ps.length c2.cp, .slice c2.sa N.ss.length c2.cs, .slice c2.ka N.ks.length c2.ck] 26)) := by
    have e8 := (show a1_32.eval (.tmp 8) = .pointer (some ⟨C1.heap.size, 0, none⟩) from (fa1_32.at_ 8))
    have e41 := (show a1_32.eval (.tmp 41) = .agg #[.slice c2.pa N.ps.length c2.cp, .slice c2.sa N.ss.length c2.cs, .slice c2.ka N.ks.length c2.ck] from (fa1_32.at_ 41))
    clear fa1_32 
    generalize a1_32.eval = ρ at *
    go_simp
  refine fa1_32.store rfl (wanted_none rfl) r_a1_33 (fun a1_33 fa1_33 => ?_)
  clear r_a1_33
  clear fa1_32
  refine wpList_nil ?_
  obtain ⟨C2, hC2⟩ : ∃ C2, C2 = C1.alloc (.cells #[.slice c2.pa N.ps.length c2.cp, .slice c2.sa N.ss.length c2.cs, .slice c2.ka N.ks.length c2.ck] 26) := ⟨_, rfl⟩
  rw [← hC2]
  have sC : Same C1 C2 := by rw [hC2]; exact (Fr.refl _ C1).alloc _
  have hbD : C2.heap[C1.heap.size]? = some (.cells #[.slice c2.pa N.ps.length c2.cp, .slice c2.sa N.ss.length c2.cs, .slice c2.ka N.ks.length c2.ck] 26 (0, 0)) := by rw [hC2]; exact heap_alloc_new C1 _
  clear hC2
  have t7 : Same U C2 := t6.trans (s7.trans sC)
  clear az0 az1 az2 bz0 bz1 bz2 xz0 xz1 xz2 yz0 yz1 yz2
  have uz : V.drew.heap.size ≤ U.heap.size := hF.sm.size
  have k1 : CpN C2 ⟨c1.pa, N.ps.length, c1.cp⟩ ⟨c1.sa, N.ss.length, c1.cs⟩ ⟨c1.ka, N.ks.length, c1.ck⟩ N := hc1.cp.fr (sB.trans (s7.trans sC)) (fun _ _ f => f)
  have k2 : CpN C2 ⟨c2.pa, N.ps.length, c2.cp⟩ ⟨c2.sa, N.ss.length, c2.cs⟩ ⟨c2.ka, N.ks.length, c2.ck⟩ N := hc2.cp.fr sC (fun _ _ f => f)
  have g1 : ∀ i, inN ⟨c1.pa, N.ps.length, c1.cp⟩ ⟨c1.sa, N.ss.length, c1.cs⟩ ⟨c1.ka, N.ks.length, c1.ck⟩ i → U.heap.size ≤ i ∧ i < B1.heap.size := fun i hi => ⟨Nat.le_trans t5.size (hc1.ge i hi).1, (hc1.ge i hi).2⟩
  have g2 : ∀ i, inN ⟨c2.pa, N.ps.length, c2.cp⟩ ⟨c2.sa, N.ss.length, c2.cs⟩ ⟨c2.ka, N.ks.length, c2.ck⟩ i → B2.heap.size ≤ i ∧ i < C1.heap.size := fun i hi => hc2.ge i hi
  have bsz : B1.heap.size ≤ B2.heap.size := sB.size
  have bcz : B2.heap.size ≤ C2.heap.size := (s7.trans sC).size
  have ubz : U.heap.size ≤ B2.heap.size := t6.size
  have gx : ∀ i, inN ⟨xpa, xpn, xpc⟩ ⟨xsa, xsn, xsc⟩ ⟨xka, xkn, xkc⟩ i → V.drew.heap.size ≤ i ∧ i < U.heap.size := fun i hi => hF.X.ge i hi
  have gy : ∀ i, inN ⟨ypa, ypn, ypc⟩ ⟨ysa, ysn, ysc⟩ ⟨yka, ykn, ykc⟩ i → V.drew.heap.size ≤ i ∧ i < U.heap.size := fun i hi => hF.Y.ge i hi
  have lx : LentN C2 V.drew.heap.size ⟨xpa, xpn, xpc⟩ ⟨xsa, xsn, xsc⟩ ⟨xka, xkn, xkc⟩ N := hF.X.same t7
  have ly : LentN C2 V.drew.heap.size ⟨ypa, ypn, ypc⟩ ⟨ysa, ysn, ysc⟩ ⟨yka, ykn, ykc⟩ M := hF.Y.same t7
  have oX : Own3 C2 ⟨xpa, xpn, xpc⟩ ⟨xsa, xsn, xsc⟩ ⟨xka, xkn, xkc⟩ := lx.own HL.out.1 HL.out.2.1 HL.out.2.2.1 HN.out.at_.ok
  have o1 : Own3 C2 ⟨c1.pa, N.ps.length, c1.cp⟩ ⟨c1.sa, N.ss.length, c1.cs⟩ ⟨c1.ka, N.ks.length, c1.ck⟩ := k1.own HL.out.1 HL.out.2.1 HL.out.2.2.1
  have o2 : Own3 C2 ⟨c2.pa, N.ps.length, c2.cp⟩ ⟨c2.sa, N.ss.length, c2.cs⟩ ⟨c2.ka, N.ks.length, c2.ck⟩ := k2.own HL.out.1 HL.out.2.1 HL.out.2.2.1
  have bA := (HUA.out).1
  have bB := (HUA.out).2
  have hA2 := ((hF.sm.trans t7).block _ (lt_of_heap bA) (fun f => f)).trans bA
  have hB2 := ((hF.sm.trans t7).block _ (lt_of_heap bB) (fun f => f)).trans bB
  have hX2 := (t7.block _ (lt_of_heap hF.hx) (fun f => f)).trans hF.hx
  have hY2 := (t7.block _ (lt_of_heap hF.hy) (fun f => f)).trans hF.hy
  have hC2 := ((s7.trans sC).block _ (lt_of_heap hbC) (fun f => f)).trans hbC
  have HC : Hid (∀ Z, Fr (fun i => inN ⟨xpa, xpn, xpc⟩ ⟨xsa, xsn, xsc⟩ ⟨xka, xkn, xkc⟩ i ∨ inN ⟨c1.pa, N.ps.length, c1.cp⟩ ⟨c1.sa, N.ss.length, c1.cs⟩ ⟨c1.ka, N.ks.length, c1.ck⟩ i ∨ inN ⟨c2.pa, N.ps.length, c2.cp⟩ ⟨c2.sa, N.ss.length, c2.cs⟩ ⟨c2.ka, N.ks.length, c2.ck⟩ i) C2 Z → (fun Z => (Z.cell? ⟨w.heap.size, 0, none⟩ = some (.slice r.pa N.ps.length r.cp) ∧ Z.cell? ⟨w.heap.size, 1, none⟩ = some (.slice r.sa N.ss.length r.cs) ∧ Z.cell? ⟨w.heap.size, 2, none⟩ = some (.slice r.ka N.ks.length r.ck)) ∧ (Z.cell? ⟨w.heap.size + 1, 0, none⟩ = some (.slice q.pa M.ps.length q.cp) ∧ Z.cell? ⟨w.heap.size + 1, 1, none⟩ = some (.slice q.sa M.ss.length q.cs) ∧ Z.cell? ⟨w.heap.size + 1, 2, none⟩ = some (.slice q.ka M.ks.length q.ck)) ∧ (Z.cell? ⟨b, 0, none⟩ = some (.slice xpa xpn xpc) ∧ Z.cell? ⟨b, 1, none⟩ = some (.slice xsa xsn xsc) ∧ Z.cell? ⟨b, 2, none⟩ = some (.slice xka xkn xkc)) ∧ (Z.cell? ⟨d, 0, none⟩ = some (.slice ypa ypn ypc) ∧ Z.cell? ⟨d, 1, none⟩ = some (.slice ysa ysn ysc) ∧ Z.cell? ⟨d, 2, none⟩ = some (.slice yka ykn ykc)) ∧ (Z.cell? ⟨B1.heap.size, 0, none⟩ = some (.slice c1.pa N.ps.length c1.cp) ∧ Z.cell? ⟨B1.heap.size, 1, none⟩ = some (.slice c1.sa N.ss.length c1.cs) ∧ Z.cell? ⟨B1.heap.size, 2, none⟩ = some (.slice c1.ka N.ks.length c1.ck)) ∧ Z.cell? ⟨C1.heap.size, 0, none⟩ = some (.slice c2.pa N.ps.length c2.cp) ∧ Z.cell? ⟨C1.heap.size, 1, none⟩ = some (.slice c2.sa N.ss.length c2.cs) ∧ Z.cell? ⟨C1.heap.size, 2, none⟩ = some (.slice c2.ka N.ks.length c2.ck)) Z) := fun Z f => by
    have nb : ∀ (g : Nat) (cs : Array Value), C2.heap[g]? = some (.cells cs 26 (0, 0)) → ¬ (inN ⟨xpa, xpn, xpc⟩ ⟨xsa, xsn, xsc⟩ ⟨xka, xkn, xkc⟩ g ∨ inN ⟨c1.pa, N.ps.length, c1.cp⟩ ⟨c1.sa, N.ss.length, c1.cs⟩ ⟨c1.ka, N.ks.length, c1.ck⟩ g ∨ inN ⟨c2.pa, N.ps.length, c2.cp⟩ ⟨c2.sa, N.ss.length, c2.cs⟩ ⟨c2.ka, N.ks.length, c2.ck⟩ g) := fun g cs hg h => by
      rcases h with h | h | h
      · exact oX.notbox hg h
      · exact o1.notbox hg h
      · exact o2.notbox hg h
    exact ⟨box_cells ((f.block _ (lt_of_heap hA2) (nb _ _ hA2)).trans hA2), box_cells ((f.block _ (lt_of_heap hB2) (nb _ _ hB2)).trans hB2), box_cells ((f.block _ (lt_of_heap hX2) (nb _ _ hX2)).trans hX2), box_cells ((f.block _ (lt_of_heap hY2) (nb _ _ hY2)).trans hY2), box_cells ((f.block _ (lt_of_heap hC2) (nb _ _ hC2)).trans hC2), box_cells ((f.block _ (lt_of_heap hbD) (nb _ _ hbD)).trans hbD)⟩
  have HO12 : Hid (∀ i, inN ⟨c1.pa, N.ps.length, c1.cp⟩ ⟨c1.sa, N.ss.length, c1.cs⟩ ⟨c1.ka, N.ks.length, c1.ck⟩ i → ¬ inN ⟨c2.pa, N.ps.length, c2.cp⟩ ⟨c2.sa, N.ss.length, c2.cs⟩ ⟨c2.ka, N.ks.length, c2.ck⟩ i) := fun i h1 h2 => by have := (g1 i h1).2; have := (g2 i h2).1; omega
  have HOX : Hid (∀ i, inN ⟨xpa, xpn, xpc⟩ ⟨xsa, xsn, xsc⟩ ⟨xka, xkn, xkc⟩ i → ¬ (inN ⟨c1.pa, N.ps.length, c1.cp⟩ ⟨c1.sa, N.ss.length, c1.cs⟩ ⟨c1.ka, N.ks.length, c1.ck⟩ i ∨ inN ⟨c2.pa, N.ps.length, c2.cp⟩ ⟨c2.sa, N.ss.length, c2.cs⟩ ⟨c2.ka, N.ks.length, c2.ck⟩ i)) := fun i h1 h2 => by
    have := (gx i h1).2
    rcases h2 with h2 | h2
    · have := (g1 i h2).1; omega
    · have := (g2 i h2).1; omega
  have HOY : Hid (∀ i, inN ⟨ypa, ypn, ypc⟩ ⟨ysa, ysn, ysc⟩ ⟨yka, ykn, ykc⟩ i → ¬ (inN ⟨xpa, xpn, xpc⟩ ⟨xsa, xsn, xsc⟩ ⟨xka, xkn, xkc⟩ i ∨ inN ⟨c1.pa, N.ps.length, c1.cp⟩ ⟨c1.sa, N.ss.length, c1.cs⟩ ⟨c1.ka, N.ks.length, c1.ck⟩ i ∨ inN ⟨c2.pa, N.ps.length, c2.cp⟩ ⟨c2.sa, N.ss.length, c2.cs⟩ ⟨c2.ka, N.ks.length, c2.ck⟩ i)) := fun i h1 h2 => by
    have := (gy i h1).2
    rcases h2 with h2 | h2 | h2
    · exact hF.off i h2 h1
    · have := (g1 i h2).1; omega
    · have := (g2 i h2).1; omega
  have HLO : Hid (∀ i, (inN ⟨xpa, xpn, xpc⟩ ⟨xsa, xsn, xsc⟩ ⟨xka, xkn, xkc⟩ i ∨ inN ⟨c1.pa, N.ps.length, c1.cp⟩ ⟨c1.sa, N.ss.length, c1.cs⟩ ⟨c1.ka, N.ks.length, c1.ck⟩ i ∨ inN ⟨c2.pa, N.ps.length, c2.cp⟩ ⟨c2.sa, N.ss.length, c2.cs⟩ ⟨c2.ka, N.ks.length, c2.ck⟩ i) → w.heap.size ≤ i) := fun i h => by
    have := HVZ.out
    rcases h with h | h | h
    · have := (gx i h).1; omega
    · have := (g1 i h).1; omega
    · have := (g2 i h).1; omega
  have HK1 : Hid (CpN C2 ⟨c1.pa, N.ps.length, c1.cp⟩ ⟨c1.sa, N.ss.length, c1.cs⟩ ⟨c1.ka, N.ks.length, c1.ck⟩ N) := k1
  have HK2 : Hid (CpN C2 ⟨c2.pa, N.ps.length, c2.cp⟩ ⟨c2.sa, N.ss.length, c2.cs⟩ ⟨c2.ka, N.ks.length, c2.ck⟩ N) := k2
  have HO1 : Hid (Own3 C2 ⟨c1.pa, N.ps.length, c1.cp⟩ ⟨c1.sa, N.ss.length, c1.cs⟩ ⟨c1.ka, N.ks.length, c1.ck⟩) := o1
  have HO2 : Hid (Own3 C2 ⟨c2.pa, N.ps.length, c2.cp⟩ ⟨c2.sa, N.ss.length, c2.cs⟩ ⟨c2.ka, N.ks.length, c2.ck⟩) := o2
  have HOWX : Hid (Own3 C2 ⟨xpa, xpn, xpc⟩ ⟨xsa, xsn, xsc⟩ ⟨xka, xkn, xkc⟩) := oX
  have HLY : Hid (LentN C2 V.drew.heap.size ⟨ypa, ypn, ypc⟩ ⟨ysa, ysn, ysc⟩ ⟨yka, ykn, ykc⟩ M) := ly
  have HLX : Hid (LentN C2 V.drew.heap.size ⟨xpa, xpn, xpc⟩ ⟨xsa, xsn, xsc⟩ ⟨xka, xkn, xkc⟩ N) := lx
  have tw : Same w C2 := HVS.out.trans (hF.sm.trans t7)
  clear k1 k2 o1 o2 oX lx ly g1 g2 gx gy uz bsz bcz ubz hA2 hB2 hX2 hY2 hC2 hbC hbD bA bB hc1 hc2 xb5
  have fr0 : ∀ Z, Same C2 Z → Fr (fun i => inN ⟨xpa, xpn, xpc⟩ ⟨xsa, xsn, xsc⟩ ⟨xka, xkn, xkc⟩ i ∨ inN ⟨c1.pa, N.ps.length, c1.cp⟩ ⟨c1.sa, N.ss.length, c1.cs⟩ ⟨c1.ka, N.ks.length, c1.ck⟩ i ∨ inN ⟨c2.pa, N.ps.length, c2.cp⟩ ⟨c2.sa, N.ss.length, c2.cs⟩ ⟨c2.ka, N.ks.length, c2.ck⟩ i) C2 Z := fun Z s => Fr.mono s (fun _ _ f => f.elim)
  change Code.wp _ _ _ _ _
  refine wp_seq (wp_seq ?_)
  obtain ⟨⟨az0, az1, az2⟩, ⟨bz0, bz1, bz2⟩, ⟨xz0, xz1, xz2⟩, ⟨yz0, yz1, yz2⟩, ⟨cz0, cz1, cz2⟩, dz0, dz1, dz2⟩ := HC.out _ (Fr.refl _ C2)
  refine wp_region_list ?_
  unfold rNC6
  have r_a1_34 : (execOp a1_33.eval { dst := some 42, op := Op.load 26 (Operand.tmp 7), type := 26, pos := "law.go:124", after := #[], guard := none }).run Try.prog (C2) = .ok (.value (.agg #[.slice c1.pa N.ps.length c1.cp, .slice c1.sa N.ss.length c1.cs, .slice c1.ka N.ks.length c1.ck])) (C2) := by
    have e7 := (show a1_33.eval (.tmp 7) = .pointer (some ⟨B1.heap.size, 0, none⟩) from (fa1_33.at_ 7))
    clear fa1_33 
    generalize a1_33.eval = ρ at *
    go_simp
  refine fa1_33.step 42 (.agg #[.slice c1.pa N.ps.length c1.cp, .slice c1.sa N.ss.length c1.cs, .slice c1.ka N.ks.length c1.ck]) rfl (lb_ hF.size) (wanted_none rfl) r_a1_34 (fun a1_34 fa1_34 => ?_)
  clear r_a1_34
  clear fa1_33
  have r_a1_35 : (execOp a1_34.eval { dst := some 43, op := Op.load 26 (Operand.tmp 2), type := 26, pos := "law.go:124", after := #[], guard := none }).run Try.prog (C2) = .ok (.value (.agg #[.slice r.pa N.ps.length r.cp, .slice r.sa N.ss.length r.cs, .slice r.ka N.ks.length r.ck])) (C2) := by
    have e2 := (show a1_34.eval (.tmp 2) = .pointer (some ⟨w.heap.size, 0, none⟩) from ((fa1_34.at_ 2).trans hF.s2))
    clear fa1_34 
    generalize a1_34.eval = ρ at *
    go_simp
  refine fa1_34.step 43 (.agg #[.slice r.pa N.ps.length r.cp, .slice r.sa N.ss.length r.cs, .slice r.ka N.ks.length r.ck]) rfl (lb_ hF.size) (wanted_none rfl) r_a1_35 (fun a1_35 fa1_35 => ?_)
  clear r_a1_35
  clear fa1_34
  have hk1 := HSC.out C2 ⟨c1.pa, N.ps.length, c1.cp⟩ ⟨c1.sa, N.ss.length, c1.cs⟩ ⟨c1.ka, N.ks.length, c1.ck⟩ HK1.out tw
  have r_a1_36 : (execOp a1_35.eval { dst := some 44, op := Op.call { callee := Callee.value (Operand.func 6), args := #[Operand.tmp 42, Operand.tmp 43], argTypes := #[26, 26] }, type := 4, pos := "law.go:124", after := #[{ on := 0, ground := Ground.data }, { on := 1, ground := Ground.data }], guard := none }).run Try.prog (C2) = .ok (.enter 6 #[.agg #[.slice c1.pa N.ps.length c1.cp, .slice c1.sa N.ss.length c1.cs, .slice c1.ka N.ks.length c1.ck], .agg #[.slice r.pa N.ps.length r.cp, .slice r.sa N.ss.length r.cs, .slice r.ka N.ks.length r.ck]]) (C2) := by
    have kf : ∀ f, a1_35.eval (.func f) = .func (.func f) #[] #[] := fun _ => rfl
    have e42 := (show a1_35.eval (.tmp 42) = .agg #[.slice c1.pa N.ps.length c1.cp, .slice c1.sa N.ss.length c1.cs, .slice c1.ka N.ks.length c1.ck] from (fa1_35.at_ 42))
    have e43 := (show a1_35.eval (.tmp 43) = .agg #[.slice r.pa N.ps.length r.cp, .slice r.sa N.ss.length r.cs, .slice r.ka N.ks.length r.ck] from (fa1_35.at_ 43))
    clear fa1_35 
    generalize a1_35.eval = ρ at *
    go_simp
  refine fa1_35.call 44 rfl (lb_ hF.size) (wanted_none rfl) r_a1_36 (hk1) (fun e D1 hR => ?_)
  obtain ⟨rfl, d1⟩ := hR
  clear r_a1_36
  clear az0 az1 az2 bz0 bz1 bz2 xz0 xz1 xz2 yz0 yz1 yz2 cz0 cz1 cz2 dz0 dz1 dz2
  obtain ⟨⟨az0, az1, az2⟩, ⟨bz0, bz1, bz2⟩, ⟨xz0, xz1, xz2⟩, ⟨yz0, yz1, yz2⟩, ⟨cz0, cz1, cz2⟩, dz0, dz1, dz2⟩ := HC.out _ (fr0 _ d1)
  refine ⟨_, rfl, fun a1_36 fa1_36 => ?_⟩
  clear fa1_35
  have r_a1_37 : (execOp a1_36.eval { dst := some 45, op := Op.unOp UnOp.not 4 (Operand.tmp 44), type := 4, pos := "law.go:124", after := #[{ on := 2, ground := Ground.data }], guard := none }).run Try.prog (D1) = .ok (.value (.bool false)) (D1) := by
    have e44 := (show a1_36.eval (.tmp 44) = .bool true from (fa1_36.at_ 44))
    clear fa1_36 
    generalize a1_36.eval = ρ at *
    go_simp
  refine fa1_36.step 45 (.bool false) rfl (lb_ hF.size) (wanted_none rfl) r_a1_37 (fun a1_37 fa1_37 => ?_)
  clear r_a1_37
  clear fa1_36
  refine fa1_37.move 46 (.bool false) _ (Or.inl rfl) rfl (lb_ hF.size) (wanted_none rfl) (fa1_37.at_ 45) (fun a1_38 fa1_38 => ?_)
  clear fa1_37
  have r_a1_39 : (execOp a1_38.eval { dst := some 47, op := Op.load 26 (Operand.tmp 8), type := 26, pos := "law.go:124", after := #[{ on := 4, ground := Ground.guard }], guard := some (4, false) }).run Try.prog (D1) = .ok (.value (.agg #[.slice c2.pa N.ps.length c2.cp, .slice c2.sa N.ss.length c2.cs, .slice c2.ka N.ks.length c2.ck])) (D1) := by
    have e8 := (show a1_38.eval (.tmp 8) = .pointer (some ⟨C1.heap.size, 0, none⟩) from (fa1_38.at_ 8))
    clear fa1_38 
    generalize a1_38.eval = ρ at *
    go_simp
  refine fa1_38.step 47 (.agg #[.slice c2.pa N.ps.length c2.cp, .slice c2.sa N.ss.length c2.cs, .slice c2.ka N.ks.length c2.ck]) rfl (lb_ hF.size) ((wanted_at (t := 46) (c := false) (b := false) rfl rfl rfl (lb_ (fa1_38.size.trans hF.size)) (fa1_38.at_ 46)).trans (by rfl)) r_a1_39 (fun a1_39 fa1_39 => ?_)
  clear r_a1_39
  clear fa1_38
  have r_a1_40 : (execOp a1_39.eval { dst := some 48, op := Op.load 26 (Operand.tmp 2), type := 26, pos := "law.go:124", after := #[{ on := 4, ground := Ground.guard }], guard := some (4, false) }).run Try.prog (D1) = .ok (.value (.agg #[.slice r.pa N.ps.length r.cp, .slice r.sa N.ss.length r.cs, .slice r.ka N.ks.length r.ck])) (D1) := by
    have e2 := (show a1_39.eval (.tmp 2) = .pointer (some ⟨w.heap.size, 0, none⟩) from ((fa1_39.at_ 2).trans hF.s2))
    clear fa1_39 
    generalize a1_39.eval = ρ at *
    go_simp
  refine fa1_39.step 48 (.agg #[.slice r.pa N.ps.length r.cp, .slice r.sa N.ss.length r.cs, .slice r.ka N.ks.length r.ck]) rfl (lb_ hF.size) ((wanted_at (t := 46) (c := false) (b := false) rfl rfl rfl (lb_ (fa1_39.size.trans hF.size)) (fa1_39.at_ 46)).trans (by rfl)) r_a1_40 (fun a1_40 fa1_40 => ?_)
  clear r_a1_40
  clear fa1_39
  have hk2 := HSC.out D1 ⟨c2.pa, N.ps.length, c2.cp⟩ ⟨c2.sa, N.ss.length, c2.cs⟩ ⟨c2.ka, N.ks.length, c2.ck⟩ (HK2.out.fr d1 (fun _ _ f => f)) (tw.trans d1)
  have r_a1_41 : (execOp a1_40.eval { dst := some 49, op := Op.call { callee := Callee.value (Operand.func 6), args := #[Operand.tmp 47, Operand.tmp 48], argTypes := #[26, 26] }, type := 4, pos := "law.go:124", after := #[{ on := 5, ground := Ground.data }, { on := 6, ground := Ground.data }, { on := 4, ground := Ground.chain }, { on := 4, ground := Ground.guard }], guard := some (4, false) }).run Try.prog (D1) = .ok (.enter 6 #[.agg #[.slice c2.pa N.ps.length c2.cp, .slice c2.sa N.ss.length c2.cs, .slice c2.ka N.ks.length c2.ck], .agg #[.slice r.pa N.ps.length r.cp, .slice r.sa N.ss.length r.cs, .slice r.ka N.ks.length r.ck]]) (D1) := by
    have kf : ∀ f, a1_40.eval (.func f) = .func (.func f) #[] #[] := fun _ => rfl
    have e47 := (show a1_40.eval (.tmp 47) = .agg #[.slice c2.pa N.ps.length c2.cp, .slice c2.sa N.ss.length c2.cs, .slice c2.ka N.ks.length c2.ck] from (fa1_40.at_ 47))
    have e48 := (show a1_40.eval (.tmp 48) = .agg #[.slice r.pa N.ps.length r.cp, .slice r.sa N.ss.length r.cs, .slice r.ka N.ks.length r.ck] from (fa1_40.at_ 48))
    clear fa1_40 
    generalize a1_40.eval = ρ at *
    go_simp
  refine fa1_40.call 49 rfl (lb_ hF.size) ((wanted_at (t := 46) (c := false) (b := false) rfl rfl rfl (lb_ (fa1_40.size.trans hF.size)) (fa1_40.at_ 46)).trans (by rfl)) r_a1_41 (hk2) (fun e D2 hR => ?_)
  obtain ⟨rfl, d2⟩ := hR
  clear r_a1_41
  clear az0 az1 az2 bz0 bz1 bz2 xz0 xz1 xz2 yz0 yz1 yz2 cz0 cz1 cz2 dz0 dz1 dz2
  obtain ⟨⟨az0, az1, az2⟩, ⟨bz0, bz1, bz2⟩, ⟨xz0, xz1, xz2⟩, ⟨yz0, yz1, yz2⟩, ⟨cz0, cz1, cz2⟩, dz0, dz1, dz2⟩ := HC.out _ (fr0 _ (d1.trans d2))
  refine ⟨_, rfl, fun a1_41 fa1_41 => ?_⟩
  clear fa1_40
  have r_a1_42 : (execOp a1_41.eval { dst := some 50, op := Op.unOp UnOp.not 4 (Operand.tmp 49), type := 4, pos := "law.go:124", after := #[{ on := 7, ground := Ground.data }, { on := 4, ground := Ground.guard }], guard := some (4, false) }).run Try.prog (D2) = .ok (.value (.bool false)) (D2) := by
    have e49 := (show a1_41.eval (.tmp 49) = .bool true from (fa1_41.at_ 49))
    clear fa1_41 
    generalize a1_41.eval = ρ at *
    go_simp
  refine fa1_41.step 50 (.bool false) rfl (lb_ hF.size) ((wanted_at (t := 46) (c := false) (b := false) rfl rfl rfl (lb_ (fa1_41.size.trans hF.size)) (fa1_41.at_ 46)).trans (by rfl)) r_a1_42 (fun a1_42 fa1_42 => ?_)
  clear r_a1_42
  clear fa1_41
  have r_a1_43 : (execOp a1_42.eval { dst := some 51, op := Op.pick (Operand.tmp 46) (Operand.const (Value.bool true)) (Operand.tmp 50), type := 4, pos := "law.go:124", after := #[{ on := 4, ground := Ground.data }, { on := 8, ground := Ground.data }], guard := none }).run Try.prog (D2) = .ok (.value (.bool false)) (D2) := by
    have kc : ∀ v, a1_42.eval (.const v) = v := fun _ => rfl
    have e46 := (show a1_42.eval (.tmp 46) = .bool false from (fa1_42.at_ 46))
    have e50 := (show a1_42.eval (.tmp 50) = .bool false from (fa1_42.at_ 50))
    clear fa1_42 
    generalize a1_42.eval = ρ at *
    go_simp
  refine fa1_42.step 51 (.bool false) rfl (lb_ hF.size) (wanted_none rfl) r_a1_43 (fun a1_43 fa1_43 => ?_)
  clear r_a1_43
  clear fa1_42
  refine fa1_43.move 52 (.bool false) _ (Or.inl rfl) rfl (lb_ hF.size) (wanted_none rfl) (fa1_43.at_ 51) (fun a1_44 fa1_44 => ?_)
  clear fa1_43
  have r_a1_45 : (execOp a1_44.eval { dst := some 53, op := Op.load 26 (Operand.tmp 5), type := 26, pos := "law.go:124", after := #[{ on := 10, ground := Ground.guard }], guard := some (10, false) }).run Try.prog (D2) = .ok (.value (.agg #[.slice xpa xpn xpc, .slice xsa xsn xsc, .slice xka xkn xkc])) (D2) := by
    have e5 := (show a1_44.eval (.tmp 5) = .pointer (some ⟨b, 0, none⟩) from ((fa1_44.at_ 5).trans hF.s5))
    clear fa1_44 
    generalize a1_44.eval = ρ at *
    go_simp
  refine fa1_44.step 53 (.agg #[.slice xpa xpn xpc, .slice xsa xsn xsc, .slice xka xkn xkc]) rfl (lb_ hF.size) ((wanted_at (t := 52) (c := false) (b := false) rfl rfl rfl (lb_ (fa1_44.size.trans hF.size)) (fa1_44.at_ 52)).trans (by rfl)) r_a1_45 (fun a1_45 fa1_45 => ?_)
  clear r_a1_45
  clear fa1_44
  have r_a1_46 : (execOp a1_45.eval { dst := some 54, op := Op.load 26 (Operand.tmp 2), type := 26, pos := "law.go:124", after := #[{ on := 10, ground := Ground.guard }], guard := some (10, false) }).run Try.prog (D2) = .ok (.value (.agg #[.slice r.pa N.ps.length r.cp, .slice r.sa N.ss.length r.cs, .slice r.ka N.ks.length r.ck])) (D2) := by
    have e2 := (show a1_45.eval (.tmp 2) = .pointer (some ⟨w.heap.size, 0, none⟩) from ((fa1_45.at_ 2).trans hF.s2))
    clear fa1_45 
    generalize a1_45.eval = ρ at *
    go_simp
  refine fa1_45.step 54 (.agg #[.slice r.pa N.ps.length r.cp, .slice r.sa N.ss.length r.cs, .slice r.ka N.ks.length r.ck]) rfl (lb_ hF.size) ((wanted_at (t := 52) (c := false) (b := false) rfl rfl rfl (lb_ (fa1_45.size.trans hF.size)) (fa1_45.at_ 52)).trans (by rfl)) r_a1_46 (fun a1_46 fa1_46 => ?_)
  clear r_a1_46
  clear fa1_45
  have r_a1_47 : (execOp a1_46.eval { dst := some 55, op := Op.call { callee := Callee.value (Operand.func 7), args := #[Operand.tmp 53, Operand.tmp 54], argTypes := #[26, 26] }, type := 4, pos := "law.go:124", after := #[{ on := 11, ground := Ground.data }, { on := 12, ground := Ground.data }, { on := 10, ground := Ground.chain }, { on := 10, ground := Ground.guard }], guard := some (10, false) }).run Try.prog (D2) = .ok (.enter 7 #[.agg #[.slice xpa xpn xpc, .slice xsa xsn xsc, .slice xka xkn xkc], .agg #[.slice r.pa N.ps.length r.cp, .slice r.sa N.ss.length r.cs, .slice r.ka N.ks.length r.ck]]) (D2) := by
    have kf : ∀ f, a1_46.eval (.func f) = .func (.func f) #[] #[] := fun _ => rfl
    have e53 := (show a1_46.eval (.tmp 53) = .agg #[.slice xpa xpn xpc, .slice xsa xsn xsc, .slice xka xkn xkc] from (fa1_46.at_ 53))
    have e54 := (show a1_46.eval (.tmp 54) = .agg #[.slice r.pa N.ps.length r.cp, .slice r.sa N.ss.length r.cs, .slice r.ka N.ks.length r.ck] from (fa1_46.at_ 54))
    clear fa1_46 
    generalize a1_46.eval = ρ at *
    go_simp
  refine fa1_46.call 55 rfl (lb_ hF.size) ((wanted_at (t := 52) (c := false) (b := false) rfl rfl rfl (lb_ (fa1_46.size.trans hF.size)) (fa1_46.at_ 52)).trans (by rfl)) r_a1_47 (HKK.out D2 (HLX.out.same (d1.trans d2)) (tw.trans (d1.trans d2))) (fun e E1 hR => ?_)
  obtain ⟨rfl, d3⟩ := hR
  clear r_a1_47
  clear az0 az1 az2 bz0 bz1 bz2 xz0 xz1 xz2 yz0 yz1 yz2 cz0 cz1 cz2 dz0 dz1 dz2
  obtain ⟨⟨az0, az1, az2⟩, ⟨bz0, bz1, bz2⟩, ⟨xz0, xz1, xz2⟩, ⟨yz0, yz1, yz2⟩, ⟨cz0, cz1, cz2⟩, dz0, dz1, dz2⟩ := HC.out _ (fr0 _ (d1.trans (d2.trans d3)))
  refine ⟨_, rfl, fun a1_47 fa1_47 => ?_⟩
  clear fa1_46
  have r_a1_48 : (execOp a1_47.eval { dst := some 56, op := Op.unOp UnOp.not 4 (Operand.tmp 55), type := 4, pos := "law.go:124", after := #[{ on := 13, ground := Ground.data }, { on := 10, ground := Ground.guard }], guard := some (10, false) }).run Try.prog (E1) = .ok (.value (.bool false)) (E1) := by
    have e55 := (show a1_47.eval (.tmp 55) = .bool true from (fa1_47.at_ 55))
    clear fa1_47 
    generalize a1_47.eval = ρ at *
    go_simp
  refine fa1_47.step 56 (.bool false) rfl (lb_ hF.size) ((wanted_at (t := 52) (c := false) (b := false) rfl rfl rfl (lb_ (fa1_47.size.trans hF.size)) (fa1_47.at_ 52)).trans (by rfl)) r_a1_48 (fun a1_48 fa1_48 => ?_)
  clear r_a1_48
  clear fa1_47
  have r_a1_49 : (execOp a1_48.eval { dst := some 57, op := Op.pick (Operand.tmp 52) (Operand.const (Value.bool true)) (Operand.tmp 56), type := 4, pos := "law.go:124", after := #[{ on := 10, ground := Ground.data }, { on := 14, ground := Ground.data }], guard := none }).run Try.prog (E1) = .ok (.value (.bool false)) (E1) := by
    have kc : ∀ v, a1_48.eval (.const v) = v := fun _ => rfl
    have e52 := (show a1_48.eval (.tmp 52) = .bool false from (fa1_48.at_ 52))
    have e56 := (show a1_48.eval (.tmp 56) = .bool false from (fa1_48.at_ 56))
    clear fa1_48 
    generalize a1_48.eval = ρ at *
    go_simp
  refine fa1_48.step 57 (.bool false) rfl (lb_ hF.size) (wanted_none rfl) r_a1_49 (fun a1_49 fa1_49 => ?_)
  clear r_a1_49
  clear fa1_48
  refine wpList_nil ?_
  change Code.wp _ _ _ _ _
  refine wp_cond_false (show a1_49.eval (.tmp 57) = .bool false from (fa1_49.at_ 57)) (wp_skip ?_)
  change Code.wp _ _ _ _ _
  refine wp_seq ?_
  have dd : Same C2 E1 := d1.trans (d2.trans d3)
  refine wp_region_list ?_
  unfold rNC8
  have r_a1_50 : (execOp a1_49.eval { dst := some 58, op := Op.load 26 (Operand.tmp 5), type := 26, pos := "law.go:127", after := #[], guard := none }).run Try.prog (E1) = .ok (.value (.agg #[.slice xpa xpn xpc, .slice xsa xsn xsc, .slice xka xkn xkc])) (E1) := by
    have e5 := (show a1_49.eval (.tmp 5) = .pointer (some ⟨b, 0, none⟩) from ((fa1_49.at_ 5).trans hF.s5))
    clear fa1_49 
    generalize a1_49.eval = ρ at *
    go_simp
  refine fa1_49.step 58 (.agg #[.slice xpa xpn xpc, .slice xsa xsn xsc, .slice xka xkn xkc]) rfl (lb_ hF.size) (wanted_none rfl) r_a1_50 (fun a1_50 fa1_50 => ?_)
  clear r_a1_50
  clear fa1_49
  have hk3 := Own3.spoil (HOWX.out.fr dd (fun _ _ f => f)) 3 (by decide)
  have r_a1_51 : (execOp a1_50.eval { dst := some 59, op := Op.call { callee := Callee.value (Operand.func 9), args := #[Operand.tmp 58, Operand.const (Value.int IntKind.u32 3)], argTypes := #[26, 30] }, type := 0, pos := "law.go:127", after := #[{ on := 0, ground := Ground.data }], guard := none }).run Try.prog (E1) = .ok (.enter 9 #[.agg #[.slice xpa xpn xpc, .slice xsa xsn xsc, .slice xka xkn xkc], Value.int IntKind.u32 3]) (E1) := by
    have kc : ∀ v, a1_50.eval (.const v) = v := fun _ => rfl
    have kf : ∀ f, a1_50.eval (.func f) = .func (.func f) #[] #[] := fun _ => rfl
    have e58 := (show a1_50.eval (.tmp 58) = .agg #[.slice xpa xpn xpc, .slice xsa xsn xsc, .slice xka xkn xkc] from (fa1_50.at_ 58))
    clear fa1_50 
    generalize a1_50.eval = ρ at *
    go_simp
  refine fa1_50.call 59 rfl (lb_ hF.size) (wanted_none rfl) r_a1_51 (hk3) (fun e E2 hR => ?_)
  obtain ⟨rfl, _, fx⟩ := hR
  clear r_a1_51
  refine ⟨_, rfl, fun a1_51 fa1_51 => ?_⟩
  clear fa1_50
  refine wpList_nil ?_
  have f8 : Fr (fun i => inN ⟨xpa, xpn, xpc⟩ ⟨xsa, xsn, xsc⟩ ⟨xka, xkn, xkc⟩ i ∨ inN ⟨c1.pa, N.ps.length, c1.cp⟩ ⟨c1.sa, N.ss.length, c1.cs⟩ ⟨c1.ka, N.ks.length, c1.ck⟩ i ∨ inN ⟨c2.pa, N.ps.length, c2.cp⟩ ⟨c2.sa, N.ss.length, c2.cs⟩ ⟨c2.ka, N.ks.length, c2.ck⟩ i) C2 E2 := Fr.trans (fr0 _ dd) fx (fun _ _ e => Or.inl e)
  have p1 : CpN E2 ⟨c1.pa, N.ps.length, c1.cp⟩ ⟨c1.sa, N.ss.length, c1.cs⟩ ⟨c1.ka, N.ks.length, c1.ck⟩ N := (HK1.out.fr dd (fun _ _ f => f)).fr fx (fun i h e => HOX.out i e (Or.inl h))
  have p2 : CpN E2 ⟨c2.pa, N.ps.length, c2.cp⟩ ⟨c2.sa, N.ss.length, c2.cs⟩ ⟨c2.ka, N.ks.length, c2.ck⟩ N := (HK2.out.fr dd (fun _ _ f => f)).fr fx (fun i h e => HOX.out i e (Or.inr h))
  have HP1 : Hid (CpN E2 ⟨c1.pa, N.ps.length, c1.cp⟩ ⟨c1.sa, N.ss.length, c1.cs⟩ ⟨c1.ka, N.ks.length, c1.ck⟩ N) := p1
  have HP2 : Hid (CpN E2 ⟨c2.pa, N.ps.length, c2.cp⟩ ⟨c2.sa, N.ss.length, c2.cs⟩ ⟨c2.ka, N.ks.length, c2.ck⟩ N) := p2
  clear p1 p2 fx
  have HF8 : Hid (Fr (fun i => inN ⟨xpa, xpn, xpc⟩ ⟨xsa, xsn, xsc⟩ ⟨xka, xkn, xkc⟩ i ∨ inN ⟨c1.pa, N.ps.length, c1.cp⟩ ⟨c1.sa, N.ss.length, c1.cs⟩ ⟨c1.ka, N.ks.length, c1.ck⟩ i ∨ inN ⟨c2.pa, N.ps.length, c2.cp⟩ ⟨c2.sa, N.ss.length, c2.cs⟩ ⟨c2.ka, N.ks.length, c2.ck⟩ i) C2 E2) := f8
  clear f8
  clear az0 az1 az2 bz0 bz1 bz2 xz0 xz1 xz2 yz0 yz1 yz2 cz0 cz1 cz2 dz0 dz1 dz2
  have sw : ∀ Z, Fr (fun i => inN ⟨xpa, xpn, xpc⟩ ⟨xsa, xsn, xsc⟩ ⟨xka, xkn, xkc⟩ i ∨ inN ⟨c1.pa, N.ps.length, c1.cp⟩ ⟨c1.sa, N.ss.length, c1.cs⟩ ⟨c1.ka, N.ks.length, c1.ck⟩ i ∨ inN ⟨c2.pa, N.ps.length, c2.cp⟩ ⟨c2.sa, N.ss.length, c2.cs⟩ ⟨c2.ka, N.ks.length, c2.ck⟩ i) C2 Z → Same w Z := fun Z f => Fr.trans tw f (fun i hi e => by have := HLO.out i e; omega)
  have sd9 : Same E2 E2.drew := Fr.drew (Fr.refl _ E2)
  change Code.wp _ _ _ _ _
  refine wp_seq ?_
  refine wp_region_held_drew (ops := rNC9) (S := fun Z => (Z.cell? ⟨w.heap.size, 0, none⟩ = some (.slice r.pa N.ps.length r.cp) ∧ Z.cell? ⟨w.heap.size, 1, none⟩ = some (.slice r.sa N.ss.length r.cs) ∧ Z.cell? ⟨w.heap.size, 2, none⟩ = some (.slice r.ka N.ks.length r.ck)) ∧ (Z.cell? ⟨w.heap.size + 1, 0, none⟩ = some (.slice q.pa M.ps.length q.cp) ∧ Z.cell? ⟨w.heap.size + 1, 1, none⟩ = some (.slice q.sa M.ss.length q.cs) ∧ Z.cell? ⟨w.heap.size + 1, 2, none⟩ = some (.slice q.ka M.ks.length q.ck)) ∧ (Z.cell? ⟨b, 0, none⟩ = some (.slice xpa xpn xpc) ∧ Z.cell? ⟨b, 1, none⟩ = some (.slice xsa xsn xsc) ∧ Z.cell? ⟨b, 2, none⟩ = some (.slice xka xkn xkc)) ∧ (Z.cell? ⟨d, 0, none⟩ = some (.slice ypa ypn ypc) ∧ Z.cell? ⟨d, 1, none⟩ = some (.slice ysa ysn ysc) ∧ Z.cell? ⟨d, 2, none⟩ = some (.slice yka ykn ykc)) ∧ (Z.cell? ⟨B1.heap.size, 0, none⟩ = some (.slice c1.pa N.ps.length c1.cp) ∧ Z.cell? ⟨B1.heap.size, 1, none⟩ = some (.slice c1.sa N.ss.length c1.cs) ∧ Z.cell? ⟨B1.heap.size, 2, none⟩ = some (.slice c1.ka N.ks.length c1.ck)) ∧ Z.cell? ⟨C1.heap.size, 0, none⟩ = some (.slice c2.pa N.ps.length c2.cp) ∧ Z.cell? ⟨C1.heap.size, 1, none⟩ = some (.slice c2.sa N.ss.length c2.cs) ∧ Z.cell? ⟨C1.heap.size, 2, none⟩ = some (.slice c2.ka N.ks.length c2.ck)) (by kernel_rfl) (HC.out _ (Fr.trans HF8.out (Fr.drew (Fr.refl (fun _ => False) E2)) (fun _ _ f => f.elim))) (fun hS51 => ?_)
  have r_a1_52 : ∀ Z, (fun Z => (Z.cell? ⟨w.heap.size, 0, none⟩ = some (.slice r.pa N.ps.length r.cp) ∧ Z.cell? ⟨w.heap.size, 1, none⟩ = some (.slice r.sa N.ss.length r.cs) ∧ Z.cell? ⟨w.heap.size, 2, none⟩ = some (.slice r.ka N.ks.length r.ck)) ∧ (Z.cell? ⟨w.heap.size + 1, 0, none⟩ = some (.slice q.pa M.ps.length q.cp) ∧ Z.cell? ⟨w.heap.size + 1, 1, none⟩ = some (.slice q.sa M.ss.length q.cs) ∧ Z.cell? ⟨w.heap.size + 1, 2, none⟩ = some (.slice q.ka M.ks.length q.ck)) ∧ (Z.cell? ⟨b, 0, none⟩ = some (.slice xpa xpn xpc) ∧ Z.cell? ⟨b, 1, none⟩ = some (.slice xsa xsn xsc) ∧ Z.cell? ⟨b, 2, none⟩ = some (.slice xka xkn xkc)) ∧ (Z.cell? ⟨d, 0, none⟩ = some (.slice ypa ypn ypc) ∧ Z.cell? ⟨d, 1, none⟩ = some (.slice ysa ysn ysc) ∧ Z.cell? ⟨d, 2, none⟩ = some (.slice yka ykn ykc)) ∧ (Z.cell? ⟨B1.heap.size, 0, none⟩ = some (.slice c1.pa N.ps.length c1.cp) ∧ Z.cell? ⟨B1.heap.size, 1, none⟩ = some (.slice c1.sa N.ss.length c1.cs) ∧ Z.cell? ⟨B1.heap.size, 2, none⟩ = some (.slice c1.ka N.ks.length c1.ck)) ∧ Z.cell? ⟨C1.heap.size, 0, none⟩ = some (.slice c2.pa N.ps.length c2.cp) ∧ Z.cell? ⟨C1.heap.size, 1, none⟩ = some (.slice c2.sa N.ss.length c2.cs) ∧ Z.cell? ⟨C1.heap.size, 2, none⟩ = some (.slice c2.ka N.ks.length c2.ck)) Z → (execOp a1_51.eval { dst := some 60, op := Op.load 26 (Operand.tmp 7), type := 26, pos := "law.go:128", after := #[], guard := none }).run Try.prog Z = .ok (.value (.agg #[.slice c1.pa N.ps.length c1.cp, .slice c1.sa N.ss.length c1.cs, .slice c1.ka N.ks.length c1.ck])) Z := fun Z hZ => by
    obtain ⟨⟨az0, az1, az2⟩, ⟨bz0, bz1, bz2⟩, ⟨xz0, xz1, xz2⟩, ⟨yz0, yz1, yz2⟩, ⟨cz0, cz1, cz2⟩, dz0, dz1, dz2⟩ := hZ
    have e7 := (show a1_51.eval (.tmp 7) = .pointer (some ⟨B1.heap.size, 0, none⟩) from (fa1_51.at_ 7))
    clear fa1_51 
    generalize a1_51.eval = ρ at *
    go_simp
  refine fa1_51.take 0 60 (.agg #[.slice c1.pa N.ps.length c1.cp, .slice c1.sa N.ss.length c1.cs, .slice c1.ka N.ks.length c1.ck]) rfl (by kernel_rfl) (by kernel_rfl) (by kernel_rfl) (fun _ _ _ h => h) rfl (lb_ hF.size) (wanted_none rfl) r_a1_52 hS51 (fun a1_52 fa1_52 => ?_)
  clear r_a1_52
  clear fa1_51
  have r_a1_53 : ∀ Z, (fun Z => (Z.cell? ⟨w.heap.size, 0, none⟩ = some (.slice r.pa N.ps.length r.cp) ∧ Z.cell? ⟨w.heap.size, 1, none⟩ = some (.slice r.sa N.ss.length r.cs) ∧ Z.cell? ⟨w.heap.size, 2, none⟩ = some (.slice r.ka N.ks.length r.ck)) ∧ (Z.cell? ⟨w.heap.size + 1, 0, none⟩ = some (.slice q.pa M.ps.length q.cp) ∧ Z.cell? ⟨w.heap.size + 1, 1, none⟩ = some (.slice q.sa M.ss.length q.cs) ∧ Z.cell? ⟨w.heap.size + 1, 2, none⟩ = some (.slice q.ka M.ks.length q.ck)) ∧ (Z.cell? ⟨b, 0, none⟩ = some (.slice xpa xpn xpc) ∧ Z.cell? ⟨b, 1, none⟩ = some (.slice xsa xsn xsc) ∧ Z.cell? ⟨b, 2, none⟩ = some (.slice xka xkn xkc)) ∧ (Z.cell? ⟨d, 0, none⟩ = some (.slice ypa ypn ypc) ∧ Z.cell? ⟨d, 1, none⟩ = some (.slice ysa ysn ysc) ∧ Z.cell? ⟨d, 2, none⟩ = some (.slice yka ykn ykc)) ∧ (Z.cell? ⟨B1.heap.size, 0, none⟩ = some (.slice c1.pa N.ps.length c1.cp) ∧ Z.cell? ⟨B1.heap.size, 1, none⟩ = some (.slice c1.sa N.ss.length c1.cs) ∧ Z.cell? ⟨B1.heap.size, 2, none⟩ = some (.slice c1.ka N.ks.length c1.ck)) ∧ Z.cell? ⟨C1.heap.size, 0, none⟩ = some (.slice c2.pa N.ps.length c2.cp) ∧ Z.cell? ⟨C1.heap.size, 1, none⟩ = some (.slice c2.sa N.ss.length c2.cs) ∧ Z.cell? ⟨C1.heap.size, 2, none⟩ = some (.slice c2.ka N.ks.length c2.ck)) Z → (execOp a1_52.eval { dst := some 61, op := Op.load 26 (Operand.tmp 2), type := 26, pos := "law.go:128", after := #[], guard := none }).run Try.prog Z = .ok (.value (.agg #[.slice r.pa N.ps.length r.cp, .slice r.sa N.ss.length r.cs, .slice r.ka N.ks.length r.ck])) Z := fun Z hZ => by
    obtain ⟨⟨az0, az1, az2⟩, ⟨bz0, bz1, bz2⟩, ⟨xz0, xz1, xz2⟩, ⟨yz0, yz1, yz2⟩, ⟨cz0, cz1, cz2⟩, dz0, dz1, dz2⟩ := hZ
    have e2 := (show a1_52.eval (.tmp 2) = .pointer (some ⟨w.heap.size, 0, none⟩) from ((fa1_52.at_ 2).trans hF.s2))
    clear fa1_52 
    generalize a1_52.eval = ρ at *
    go_simp
  refine fa1_52.take 1 61 (.agg #[.slice r.pa N.ps.length r.cp, .slice r.sa N.ss.length r.cs, .slice r.ka N.ks.length r.ck]) rfl (by kernel_rfl) (by kernel_rfl) (by kernel_rfl) (fun _ _ _ h => h) rfl (lb_ hF.size) (wanted_none rfl) r_a1_53 hS51 (fun a1_53 fa1_53 => ?_)
  clear r_a1_53
  clear fa1_52
  have hk4 := HSC.out _ ⟨c1.pa, N.ps.length, c1.cp⟩ ⟨c1.sa, N.ss.length, c1.cs⟩ ⟨c1.ka, N.ks.length, c1.ck⟩ (HP1.out.fr (Fr.drew (Fr.refl (fun _ => False) E2)) (fun _ _ f => f)) (sw _ (Fr.trans HF8.out (Fr.drew (Fr.refl (fun _ => False) E2)) (fun _ _ f => f.elim)))
  have r_a1_54 : (execOp a1_53.eval { dst := some 62, op := Op.call { callee := Callee.value (Operand.func 6), args := #[Operand.tmp 60, Operand.tmp 61], argTypes := #[26, 26] }, type := 4, pos := "law.go:128", after := #[{ on := 0, ground := Ground.data }, { on := 1, ground := Ground.data }], guard := none }).run Try.prog (E2.drew) = .ok (.enter 6 #[.agg #[.slice c1.pa N.ps.length c1.cp, .slice c1.sa N.ss.length c1.cs, .slice c1.ka N.ks.length c1.ck], .agg #[.slice r.pa N.ps.length r.cp, .slice r.sa N.ss.length r.cs, .slice r.ka N.ks.length r.ck]]) (E2.drew) := by
    have kf : ∀ f, a1_53.eval (.func f) = .func (.func f) #[] #[] := fun _ => rfl
    have e60 := (show a1_53.eval (.tmp 60) = .agg #[.slice c1.pa N.ps.length c1.cp, .slice c1.sa N.ss.length c1.cs, .slice c1.ka N.ks.length c1.ck] from (fa1_53.at_ 60))
    have e61 := (show a1_53.eval (.tmp 61) = .agg #[.slice r.pa N.ps.length r.cp, .slice r.sa N.ss.length r.cs, .slice r.ka N.ks.length r.ck] from (fa1_53.at_ 61))
    clear fa1_53 
    generalize a1_53.eval = ρ at *
    go_simp
  refine fa1_53.oneCall 2 62 (by kernel_rfl) rfl rfl (lb_ hF.size) (wanted_none rfl) r_a1_54 (hk4) (fun e G1 hR => ?_)
  obtain ⟨rfl, e1⟩ := hR
  clear r_a1_54
  have v1 : Same E2 G1 := sd9.trans e1
  have w1 := Fr.trans HF8.out v1 (fun _ _ f => f.elim)
  have hS54 : (fun Z => (Z.cell? ⟨w.heap.size, 0, none⟩ = some (.slice r.pa N.ps.length r.cp) ∧ Z.cell? ⟨w.heap.size, 1, none⟩ = some (.slice r.sa N.ss.length r.cs) ∧ Z.cell? ⟨w.heap.size, 2, none⟩ = some (.slice r.ka N.ks.length r.ck)) ∧ (Z.cell? ⟨w.heap.size + 1, 0, none⟩ = some (.slice q.pa M.ps.length q.cp) ∧ Z.cell? ⟨w.heap.size + 1, 1, none⟩ = some (.slice q.sa M.ss.length q.cs) ∧ Z.cell? ⟨w.heap.size + 1, 2, none⟩ = some (.slice q.ka M.ks.length q.ck)) ∧ (Z.cell? ⟨b, 0, none⟩ = some (.slice xpa xpn xpc) ∧ Z.cell? ⟨b, 1, none⟩ = some (.slice xsa xsn xsc) ∧ Z.cell? ⟨b, 2, none⟩ = some (.slice xka xkn xkc)) ∧ (Z.cell? ⟨d, 0, none⟩ = some (.slice ypa ypn ypc) ∧ Z.cell? ⟨d, 1, none⟩ = some (.slice ysa ysn ysc) ∧ Z.cell? ⟨d, 2, none⟩ = some (.slice yka ykn ykc)) ∧ (Z.cell? ⟨B1.heap.size, 0, none⟩ = some (.slice c1.pa N.ps.length c1.cp) ∧ Z.cell? ⟨B1.heap.size, 1, none⟩ = some (.slice c1.sa N.ss.length c1.cs) ∧ Z.cell? ⟨B1.heap.size, 2, none⟩ = some (.slice c1.ka N.ks.length c1.ck)) ∧ Z.cell? ⟨C1.heap.size, 0, none⟩ = some (.slice c2.pa N.ps.length c2.cp) ∧ Z.cell? ⟨C1.heap.size, 1, none⟩ = some (.slice c2.sa N.ss.length c2.cs) ∧ Z.cell? ⟨C1.heap.size, 2, none⟩ = some (.slice c2.ka N.ks.length c2.ck)) G1 := HC.out _ (Fr.trans (Fr.trans HF8.out (Fr.drew (Fr.refl (fun _ => False) E2)) (fun _ _ f => f.elim)) e1 (fun _ _ f => f.elim))
  refine ⟨_, rfl, hS54, fun a1_54 fa1_54 => ?_⟩
  clear fa1_53
  refine fa1_54.takeMove 3 63 (.bool true) _ (Or.inl rfl) rfl (by kernel_rfl) (by kernel_rfl) (by kernel_rfl) (fun _ _ _ h => h) rfl (lb_ hF.size) (wanted_none rfl) (fa1_54.at_ 62) hS54 (fun a1_55 fa1_55 => ?_)
  clear fa1_54
  have r_a1_56 : ∀ Z, (fun Z => (Z.cell? ⟨w.heap.size, 0, none⟩ = some (.slice r.pa N.ps.length r.cp) ∧ Z.cell? ⟨w.heap.size, 1, none⟩ = some (.slice r.sa N.ss.length r.cs) ∧ Z.cell? ⟨w.heap.size, 2, none⟩ = some (.slice r.ka N.ks.length r.ck)) ∧ (Z.cell? ⟨w.heap.size + 1, 0, none⟩ = some (.slice q.pa M.ps.length q.cp) ∧ Z.cell? ⟨w.heap.size + 1, 1, none⟩ = some (.slice q.sa M.ss.length q.cs) ∧ Z.cell? ⟨w.heap.size + 1, 2, none⟩ = some (.slice q.ka M.ks.length q.ck)) ∧ (Z.cell? ⟨b, 0, none⟩ = some (.slice xpa xpn xpc) ∧ Z.cell? ⟨b, 1, none⟩ = some (.slice xsa xsn xsc) ∧ Z.cell? ⟨b, 2, none⟩ = some (.slice xka xkn xkc)) ∧ (Z.cell? ⟨d, 0, none⟩ = some (.slice ypa ypn ypc) ∧ Z.cell? ⟨d, 1, none⟩ = some (.slice ysa ysn ysc) ∧ Z.cell? ⟨d, 2, none⟩ = some (.slice yka ykn ykc)) ∧ (Z.cell? ⟨B1.heap.size, 0, none⟩ = some (.slice c1.pa N.ps.length c1.cp) ∧ Z.cell? ⟨B1.heap.size, 1, none⟩ = some (.slice c1.sa N.ss.length c1.cs) ∧ Z.cell? ⟨B1.heap.size, 2, none⟩ = some (.slice c1.ka N.ks.length c1.ck)) ∧ Z.cell? ⟨C1.heap.size, 0, none⟩ = some (.slice c2.pa N.ps.length c2.cp) ∧ Z.cell? ⟨C1.heap.size, 1, none⟩ = some (.slice c2.sa N.ss.length c2.cs) ∧ Z.cell? ⟨C1.heap.size, 2, none⟩ = some (.slice c2.ka N.ks.length c2.ck)) Z → (execOp a1_55.eval { dst := some 64, op := Op.load 26 (Operand.tmp 7), type := 26, pos := "law.go:128", after := #[{ on := 3, ground := Ground.guard }], guard := some (3, true) }).run Try.prog Z = .ok (.value (.agg #[.slice c1.pa N.ps.length c1.cp, .slice c1.sa N.ss.length c1.cs, .slice c1.ka N.ks.length c1.ck])) Z := fun Z hZ => by
    obtain ⟨⟨az0, az1, az2⟩, ⟨bz0, bz1, bz2⟩, ⟨xz0, xz1, xz2⟩, ⟨yz0, yz1, yz2⟩, ⟨cz0, cz1, cz2⟩, dz0, dz1, dz2⟩ := hZ
    have e7 := (show a1_55.eval (.tmp 7) = .pointer (some ⟨B1.heap.size, 0, none⟩) from (fa1_55.at_ 7))
    clear fa1_55 
    generalize a1_55.eval = ρ at *
    go_simp
  refine fa1_55.take 4 64 (.agg #[.slice c1.pa N.ps.length c1.cp, .slice c1.sa N.ss.length c1.cs, .slice c1.ka N.ks.length c1.ck]) rfl (by kernel_rfl) (by kernel_rfl) (by kernel_rfl) (fun _ _ _ h => h) rfl (lb_ hF.size) ((wanted_at (t := 63) (c := true) (b := true) rfl rfl rfl (lb_ (fa1_55.size.trans hF.size)) (fa1_55.at_ 63)).trans (by rfl)) r_a1_56 hS54 (fun a1_56 fa1_56 => ?_)
  clear r_a1_56
  clear fa1_55
  have r_a1_57 : ∀ Z, (fun Z => (Z.cell? ⟨w.heap.size, 0, none⟩ = some (.slice r.pa N.ps.length r.cp) ∧ Z.cell? ⟨w.heap.size, 1, none⟩ = some (.slice r.sa N.ss.length r.cs) ∧ Z.cell? ⟨w.heap.size, 2, none⟩ = some (.slice r.ka N.ks.length r.ck)) ∧ (Z.cell? ⟨w.heap.size + 1, 0, none⟩ = some (.slice q.pa M.ps.length q.cp) ∧ Z.cell? ⟨w.heap.size + 1, 1, none⟩ = some (.slice q.sa M.ss.length q.cs) ∧ Z.cell? ⟨w.heap.size + 1, 2, none⟩ = some (.slice q.ka M.ks.length q.ck)) ∧ (Z.cell? ⟨b, 0, none⟩ = some (.slice xpa xpn xpc) ∧ Z.cell? ⟨b, 1, none⟩ = some (.slice xsa xsn xsc) ∧ Z.cell? ⟨b, 2, none⟩ = some (.slice xka xkn xkc)) ∧ (Z.cell? ⟨d, 0, none⟩ = some (.slice ypa ypn ypc) ∧ Z.cell? ⟨d, 1, none⟩ = some (.slice ysa ysn ysc) ∧ Z.cell? ⟨d, 2, none⟩ = some (.slice yka ykn ykc)) ∧ (Z.cell? ⟨B1.heap.size, 0, none⟩ = some (.slice c1.pa N.ps.length c1.cp) ∧ Z.cell? ⟨B1.heap.size, 1, none⟩ = some (.slice c1.sa N.ss.length c1.cs) ∧ Z.cell? ⟨B1.heap.size, 2, none⟩ = some (.slice c1.ka N.ks.length c1.ck)) ∧ Z.cell? ⟨C1.heap.size, 0, none⟩ = some (.slice c2.pa N.ps.length c2.cp) ∧ Z.cell? ⟨C1.heap.size, 1, none⟩ = some (.slice c2.sa N.ss.length c2.cs) ∧ Z.cell? ⟨C1.heap.size, 2, none⟩ = some (.slice c2.ka N.ks.length c2.ck)) Z → (execOp a1_56.eval { dst := some 65, op := Op.load 26 (Operand.tmp 8), type := 26, pos := "law.go:128", after := #[{ on := 3, ground := Ground.guard }], guard := some (3, true) }).run Try.prog Z = .ok (.value (.agg #[.slice c2.pa N.ps.length c2.cp, .slice c2.sa N.ss.length c2.cs, .slice c2.ka N.ks.length c2.ck])) Z := fun Z hZ => by
    obtain ⟨⟨az0, az1, az2⟩, ⟨bz0, bz1, bz2⟩, ⟨xz0, xz1, xz2⟩, ⟨yz0, yz1, yz2⟩, ⟨cz0, cz1, cz2⟩, dz0, dz1, dz2⟩ := hZ
    have e8 := (show a1_56.eval (.tmp 8) = .pointer (some ⟨C1.heap.size, 0, none⟩) from (fa1_56.at_ 8))
    clear fa1_56 
    generalize a1_56.eval = ρ at *
    go_simp
  refine fa1_56.take 5 65 (.agg #[.slice c2.pa N.ps.length c2.cp, .slice c2.sa N.ss.length c2.cs, .slice c2.ka N.ks.length c2.ck]) rfl (by kernel_rfl) (by kernel_rfl) (by kernel_rfl) (fun _ _ _ h => h) rfl (lb_ hF.size) ((wanted_at (t := 63) (c := true) (b := true) rfl rfl rfl (lb_ (fa1_56.size.trans hF.size)) (fa1_56.at_ 63)).trans (by rfl)) r_a1_57 hS54 (fun a1_57 fa1_57 => ?_)
  clear r_a1_57
  clear fa1_56
  have hk5 := apart_true _ ((HP1.out.fr v1 (fun _ _ f => f)).own HL.out.1 HL.out.2.1 HL.out.2.2.1) ((HP2.out.fr v1 (fun _ _ f => f)).own HL.out.1 HL.out.2.1 HL.out.2.2.1) (fun i h e => HO12.out i (Or.inl h) (Or.inl e)) (fun i h e => HO12.out i (Or.inr (Or.inl h)) (Or.inr (Or.inl e))) (fun i h e => HO12.out i (Or.inr (Or.inr h)) (Or.inr (Or.inr e)))
  have r_a1_58 : (execOp a1_57.eval { dst := some 66, op := Op.call { callee := Callee.value (Operand.func 10), args := #[Operand.tmp 64, Operand.tmp 65], argTypes := #[26, 26] }, type := 4, pos := "law.go:128", after := #[{ on := 4, ground := Ground.data }, { on := 5, ground := Ground.data }, { on := 3, ground := Ground.chain }, { on := 3, ground := Ground.guard }], guard := some (3, true) }).run Try.prog (G1) = .ok (.enter 10 #[.agg #[.slice c1.pa N.ps.length c1.cp, .slice c1.sa N.ss.length c1.cs, .slice c1.ka N.ks.length c1.ck], .agg #[.slice c2.pa N.ps.length c2.cp, .slice c2.sa N.ss.length c2.cs, .slice c2.ka N.ks.length c2.ck]]) (G1) := by
    have kf : ∀ f, a1_57.eval (.func f) = .func (.func f) #[] #[] := fun _ => rfl
    have e64 := (show a1_57.eval (.tmp 64) = .agg #[.slice c1.pa N.ps.length c1.cp, .slice c1.sa N.ss.length c1.cs, .slice c1.ka N.ks.length c1.ck] from (fa1_57.at_ 64))
    have e65 := (show a1_57.eval (.tmp 65) = .agg #[.slice c2.pa N.ps.length c2.cp, .slice c2.sa N.ss.length c2.cs, .slice c2.ka N.ks.length c2.ck] from (fa1_57.at_ 65))
    clear fa1_57 
    generalize a1_57.eval = ρ at *
    go_simp
  refine fa1_57.oneCall 6 66 (by kernel_rfl) rfl rfl (lb_ hF.size) ((wanted_at (t := 63) (c := true) (b := true) rfl rfl rfl (lb_ (fa1_57.size.trans hF.size)) (fa1_57.at_ 63)).trans (by rfl)) r_a1_58 (hk5) (fun e G2 hR => ?_)
  obtain ⟨rfl, e2⟩ := hR
  clear r_a1_58
  have w2 := Fr.trans w1 e2 (fun _ _ h => Or.inr h)
  have HYG : Hid (LentN G2 V.drew.heap.size ⟨ypa, ypn, ypc⟩ ⟨ysa, ysn, ysc⟩ ⟨yka, ykn, ykc⟩ M) := HLY.out.fr w2 HOY.out
  have hS58 : (fun Z => (Z.cell? ⟨w.heap.size, 0, none⟩ = some (.slice r.pa N.ps.length r.cp) ∧ Z.cell? ⟨w.heap.size, 1, none⟩ = some (.slice r.sa N.ss.length r.cs) ∧ Z.cell? ⟨w.heap.size, 2, none⟩ = some (.slice r.ka N.ks.length r.ck)) ∧ (Z.cell? ⟨w.heap.size + 1, 0, none⟩ = some (.slice q.pa M.ps.length q.cp) ∧ Z.cell? ⟨w.heap.size + 1, 1, none⟩ = some (.slice q.sa M.ss.length q.cs) ∧ Z.cell? ⟨w.heap.size + 1, 2, none⟩ = some (.slice q.ka M.ks.length q.ck)) ∧ (Z.cell? ⟨b, 0, none⟩ = some (.slice xpa xpn xpc) ∧ Z.cell? ⟨b, 1, none⟩ = some (.slice xsa xsn xsc) ∧ Z.cell? ⟨b, 2, none⟩ = some (.slice xka xkn xkc)) ∧ (Z.cell? ⟨d, 0, none⟩ = some (.slice ypa ypn ypc) ∧ Z.cell? ⟨d, 1, none⟩ = some (.slice ysa ysn ysc) ∧ Z.cell? ⟨d, 2, none⟩ = some (.slice yka ykn ykc)) ∧ (Z.cell? ⟨B1.heap.size, 0, none⟩ = some (.slice c1.pa N.ps.length c1.cp) ∧ Z.cell? ⟨B1.heap.size, 1, none⟩ = some (.slice c1.sa N.ss.length c1.cs) ∧ Z.cell? ⟨B1.heap.size, 2, none⟩ = some (.slice c1.ka N.ks.length c1.ck)) ∧ Z.cell? ⟨C1.heap.size, 0, none⟩ = some (.slice c2.pa N.ps.length c2.cp) ∧ Z.cell? ⟨C1.heap.size, 1, none⟩ = some (.slice c2.sa N.ss.length c2.cs) ∧ Z.cell? ⟨C1.heap.size, 2, none⟩ = some (.slice c2.ka N.ks.length c2.ck)) G2 := HC.out _ (Fr.trans w1 e2 (fun _ _ h => Or.inr h))
  refine ⟨_, rfl, hS58, fun a1_58 fa1_58 => ?_⟩
  clear fa1_57
  have r_a1_59 : ∀ Z, (fun Z => (Z.cell? ⟨w.heap.size, 0, none⟩ = some (.slice r.pa N.ps.length r.cp) ∧ Z.cell? ⟨w.heap.size, 1, none⟩ = some (.slice r.sa N.ss.length r.cs) ∧ Z.cell? ⟨w.heap.size, 2, none⟩ = some (.slice r.ka N.ks.length r.ck)) ∧ (Z.cell? ⟨w.heap.size + 1, 0, none⟩ = some (.slice q.pa M.ps.length q.cp) ∧ Z.cell? ⟨w.heap.size + 1, 1, none⟩ = some (.slice q.sa M.ss.length q.cs) ∧ Z.cell? ⟨w.heap.size + 1, 2, none⟩ = some (.slice q.ka M.ks.length q.ck)) ∧ (Z.cell? ⟨b, 0, none⟩ = some (.slice xpa xpn xpc) ∧ Z.cell? ⟨b, 1, none⟩ = some (.slice xsa xsn xsc) ∧ Z.cell? ⟨b, 2, none⟩ = some (.slice xka xkn xkc)) ∧ (Z.cell? ⟨d, 0, none⟩ = some (.slice ypa ypn ypc) ∧ Z.cell? ⟨d, 1, none⟩ = some (.slice ysa ysn ysc) ∧ Z.cell? ⟨d, 2, none⟩ = some (.slice yka ykn ykc)) ∧ (Z.cell? ⟨B1.heap.size, 0, none⟩ = some (.slice c1.pa N.ps.length c1.cp) ∧ Z.cell? ⟨B1.heap.size, 1, none⟩ = some (.slice c1.sa N.ss.length c1.cs) ∧ Z.cell? ⟨B1.heap.size, 2, none⟩ = some (.slice c1.ka N.ks.length c1.ck)) ∧ Z.cell? ⟨C1.heap.size, 0, none⟩ = some (.slice c2.pa N.ps.length c2.cp) ∧ Z.cell? ⟨C1.heap.size, 1, none⟩ = some (.slice c2.sa N.ss.length c2.cs) ∧ Z.cell? ⟨C1.heap.size, 2, none⟩ = some (.slice c2.ka N.ks.length c2.ck)) Z → (execOp a1_58.eval { dst := some 67, op := Op.pick (Operand.tmp 63) (Operand.tmp 66) (Operand.const (Value.bool false)), type := 4, pos := "law.go:128", after := #[{ on := 3, ground := Ground.data }, { on := 6, ground := Ground.data }], guard := none }).run Try.prog Z = .ok (.value (.bool true)) Z := fun Z hZ => by
    have kc : ∀ v, a1_58.eval (.const v) = v := fun _ => rfl
    have e63 := (show a1_58.eval (.tmp 63) = .bool true from (fa1_58.at_ 63))
    have e66 := (show a1_58.eval (.tmp 66) = .bool true from (fa1_58.at_ 66))
    clear fa1_58 
    generalize a1_58.eval = ρ at *
    go_simp
  refine fa1_58.take 7 67 (.bool true) rfl (by kernel_rfl) (by kernel_rfl) (by kernel_rfl) (fun _ _ _ h => h) rfl (lb_ hF.size) (wanted_none rfl) r_a1_59 hS58 (fun a1_59 fa1_59 => ?_)
  clear r_a1_59
  clear fa1_58
  refine fa1_59.takeMove 8 68 (.bool true) _ (Or.inl rfl) rfl (by kernel_rfl) (by kernel_rfl) (by kernel_rfl) (fun _ _ _ h => h) rfl (lb_ hF.size) (wanted_none rfl) (fa1_59.at_ 67) hS58 (fun a1_60 fa1_60 => ?_)
  clear fa1_59
  have r_a1_61 : ∀ Z, (fun Z => (Z.cell? ⟨w.heap.size, 0, none⟩ = some (.slice r.pa N.ps.length r.cp) ∧ Z.cell? ⟨w.heap.size, 1, none⟩ = some (.slice r.sa N.ss.length r.cs) ∧ Z.cell? ⟨w.heap.size, 2, none⟩ = some (.slice r.ka N.ks.length r.ck)) ∧ (Z.cell? ⟨w.heap.size + 1, 0, none⟩ = some (.slice q.pa M.ps.length q.cp) ∧ Z.cell? ⟨w.heap.size + 1, 1, none⟩ = some (.slice q.sa M.ss.length q.cs) ∧ Z.cell? ⟨w.heap.size + 1, 2, none⟩ = some (.slice q.ka M.ks.length q.ck)) ∧ (Z.cell? ⟨b, 0, none⟩ = some (.slice xpa xpn xpc) ∧ Z.cell? ⟨b, 1, none⟩ = some (.slice xsa xsn xsc) ∧ Z.cell? ⟨b, 2, none⟩ = some (.slice xka xkn xkc)) ∧ (Z.cell? ⟨d, 0, none⟩ = some (.slice ypa ypn ypc) ∧ Z.cell? ⟨d, 1, none⟩ = some (.slice ysa ysn ysc) ∧ Z.cell? ⟨d, 2, none⟩ = some (.slice yka ykn ykc)) ∧ (Z.cell? ⟨B1.heap.size, 0, none⟩ = some (.slice c1.pa N.ps.length c1.cp) ∧ Z.cell? ⟨B1.heap.size, 1, none⟩ = some (.slice c1.sa N.ss.length c1.cs) ∧ Z.cell? ⟨B1.heap.size, 2, none⟩ = some (.slice c1.ka N.ks.length c1.ck)) ∧ Z.cell? ⟨C1.heap.size, 0, none⟩ = some (.slice c2.pa N.ps.length c2.cp) ∧ Z.cell? ⟨C1.heap.size, 1, none⟩ = some (.slice c2.sa N.ss.length c2.cs) ∧ Z.cell? ⟨C1.heap.size, 2, none⟩ = some (.slice c2.ka N.ks.length c2.ck)) Z → (execOp a1_60.eval { dst := some 69, op := Op.load 26 (Operand.tmp 6), type := 26, pos := "law.go:128", after := #[{ on := 8, ground := Ground.guard }], guard := some (8, true) }).run Try.prog Z = .ok (.value (.agg #[.slice ypa ypn ypc, .slice ysa ysn ysc, .slice yka ykn ykc])) Z := fun Z hZ => by
    obtain ⟨⟨az0, az1, az2⟩, ⟨bz0, bz1, bz2⟩, ⟨xz0, xz1, xz2⟩, ⟨yz0, yz1, yz2⟩, ⟨cz0, cz1, cz2⟩, dz0, dz1, dz2⟩ := hZ
    have e6 := (show a1_60.eval (.tmp 6) = .pointer (some ⟨d, 0, none⟩) from ((fa1_60.at_ 6).trans hF.s6))
    clear fa1_60 
    generalize a1_60.eval = ρ at *
    go_simp
  refine fa1_60.take 9 69 (.agg #[.slice ypa ypn ypc, .slice ysa ysn ysc, .slice yka ykn ykc]) rfl (by kernel_rfl) (by kernel_rfl) (by kernel_rfl) (fun _ _ _ h => h) rfl (lb_ hF.size) ((wanted_at (t := 68) (c := true) (b := true) rfl rfl rfl (lb_ (fa1_60.size.trans hF.size)) (fa1_60.at_ 68)).trans (by rfl)) r_a1_61 hS58 (fun a1_61 fa1_61 => ?_)
  clear r_a1_61
  clear fa1_60
  have r_a1_62 : ∀ Z, (fun Z => (Z.cell? ⟨w.heap.size, 0, none⟩ = some (.slice r.pa N.ps.length r.cp) ∧ Z.cell? ⟨w.heap.size, 1, none⟩ = some (.slice r.sa N.ss.length r.cs) ∧ Z.cell? ⟨w.heap.size, 2, none⟩ = some (.slice r.ka N.ks.length r.ck)) ∧ (Z.cell? ⟨w.heap.size + 1, 0, none⟩ = some (.slice q.pa M.ps.length q.cp) ∧ Z.cell? ⟨w.heap.size + 1, 1, none⟩ = some (.slice q.sa M.ss.length q.cs) ∧ Z.cell? ⟨w.heap.size + 1, 2, none⟩ = some (.slice q.ka M.ks.length q.ck)) ∧ (Z.cell? ⟨b, 0, none⟩ = some (.slice xpa xpn xpc) ∧ Z.cell? ⟨b, 1, none⟩ = some (.slice xsa xsn xsc) ∧ Z.cell? ⟨b, 2, none⟩ = some (.slice xka xkn xkc)) ∧ (Z.cell? ⟨d, 0, none⟩ = some (.slice ypa ypn ypc) ∧ Z.cell? ⟨d, 1, none⟩ = some (.slice ysa ysn ysc) ∧ Z.cell? ⟨d, 2, none⟩ = some (.slice yka ykn ykc)) ∧ (Z.cell? ⟨B1.heap.size, 0, none⟩ = some (.slice c1.pa N.ps.length c1.cp) ∧ Z.cell? ⟨B1.heap.size, 1, none⟩ = some (.slice c1.sa N.ss.length c1.cs) ∧ Z.cell? ⟨B1.heap.size, 2, none⟩ = some (.slice c1.ka N.ks.length c1.ck)) ∧ Z.cell? ⟨C1.heap.size, 0, none⟩ = some (.slice c2.pa N.ps.length c2.cp) ∧ Z.cell? ⟨C1.heap.size, 1, none⟩ = some (.slice c2.sa N.ss.length c2.cs) ∧ Z.cell? ⟨C1.heap.size, 2, none⟩ = some (.slice c2.ka N.ks.length c2.ck)) Z → (execOp a1_61.eval { dst := some 71, op := Op.load 26 (Operand.tmp 3), type := 26, pos := "law.go:128", after := #[{ on := 8, ground := Ground.guard }], guard := some (8, true) }).run Try.prog Z = .ok (.value (.agg #[.slice q.pa M.ps.length q.cp, .slice q.sa M.ss.length q.cs, .slice q.ka M.ks.length q.ck])) Z := fun Z hZ => by
    obtain ⟨⟨az0, az1, az2⟩, ⟨bz0, bz1, bz2⟩, ⟨xz0, xz1, xz2⟩, ⟨yz0, yz1, yz2⟩, ⟨cz0, cz1, cz2⟩, dz0, dz1, dz2⟩ := hZ
    have e3 := (show a1_61.eval (.tmp 3) = .pointer (some ⟨w.heap.size + 1, 0, none⟩) from ((fa1_61.at_ 3).trans hF.s3))
    clear fa1_61 
    generalize a1_61.eval = ρ at *
    go_simp
  refine fa1_61.take 11 71 (.agg #[.slice q.pa M.ps.length q.cp, .slice q.sa M.ss.length q.cs, .slice q.ka M.ks.length q.ck]) rfl (by kernel_rfl) (by kernel_rfl) (by kernel_rfl) (fun _ _ _ h => h) rfl (lb_ hF.size) ((wanted_at (t := 68) (c := true) (b := true) rfl rfl rfl (lb_ (fa1_61.size.trans hF.size)) (fa1_61.at_ 68)).trans (by rfl)) r_a1_62 hS58 (fun a1_62 fa1_62 => ?_)
  clear r_a1_62
  clear fa1_61
  have r_a1_63 : (execOp a1_62.eval { dst := some 70, op := Op.call { callee := Callee.value (Operand.func 8), args := #[Operand.tmp 69], argTypes := #[26] }, type := 26, pos := "law.go:128", after := #[{ on := 9, ground := Ground.data }, { on := 8, ground := Ground.chain }, { on := 8, ground := Ground.guard }], guard := some (8, true) }).run Try.prog (G2) = .ok (.enter 8 #[.agg #[.slice ypa ypn ypc, .slice ysa ysn ysc, .slice yka ykn ykc]]) (G2) := by
    have kf : ∀ f, a1_62.eval (.func f) = .func (.func f) #[] #[] := fun _ => rfl
    have e69 := (show a1_62.eval (.tmp 69) = .agg #[.slice ypa ypn ypc, .slice ysa ysn ysc, .slice yka ykn ykc] from (fa1_62.at_ 69))
    clear fa1_62 
    generalize a1_62.eval = ρ at *
    go_simp
  refine fa1_62.oneCall 10 70 (by kernel_rfl) rfl rfl (lb_ hF.size) ((wanted_at (t := 68) (c := true) (b := true) rfl rfl rfl (lb_ (fa1_62.size.trans hF.size)) (fa1_62.at_ 68)).trans (by rfl)) r_a1_63 (HCY.out G2 HYG.out) (fun e G3 hR => ?_)
  obtain ⟨c3, rfl, hc3, e3⟩ := hR
  clear r_a1_63
  have w3 := Fr.trans w2 e3 (fun _ _ f => f.elim)
  have hS63 : (fun Z => (Z.cell? ⟨w.heap.size, 0, none⟩ = some (.slice r.pa N.ps.length r.cp) ∧ Z.cell? ⟨w.heap.size, 1, none⟩ = some (.slice r.sa N.ss.length r.cs) ∧ Z.cell? ⟨w.heap.size, 2, none⟩ = some (.slice r.ka N.ks.length r.ck)) ∧ (Z.cell? ⟨w.heap.size + 1, 0, none⟩ = some (.slice q.pa M.ps.length q.cp) ∧ Z.cell? ⟨w.heap.size + 1, 1, none⟩ = some (.slice q.sa M.ss.length q.cs) ∧ Z.cell? ⟨w.heap.size + 1, 2, none⟩ = some (.slice q.ka M.ks.length q.ck)) ∧ (Z.cell? ⟨b, 0, none⟩ = some (.slice xpa xpn xpc) ∧ Z.cell? ⟨b, 1, none⟩ = some (.slice xsa xsn xsc) ∧ Z.cell? ⟨b, 2, none⟩ = some (.slice xka xkn xkc)) ∧ (Z.cell? ⟨d, 0, none⟩ = some (.slice ypa ypn ypc) ∧ Z.cell? ⟨d, 1, none⟩ = some (.slice ysa ysn ysc) ∧ Z.cell? ⟨d, 2, none⟩ = some (.slice yka ykn ykc)) ∧ (Z.cell? ⟨B1.heap.size, 0, none⟩ = some (.slice c1.pa N.ps.length c1.cp) ∧ Z.cell? ⟨B1.heap.size, 1, none⟩ = some (.slice c1.sa N.ss.length c1.cs) ∧ Z.cell? ⟨B1.heap.size, 2, none⟩ = some (.slice c1.ka N.ks.length c1.ck)) ∧ Z.cell? ⟨C1.heap.size, 0, none⟩ = some (.slice c2.pa N.ps.length c2.cp) ∧ Z.cell? ⟨C1.heap.size, 1, none⟩ = some (.slice c2.sa N.ss.length c2.cs) ∧ Z.cell? ⟨C1.heap.size, 2, none⟩ = some (.slice c2.ka N.ks.length c2.ck)) G3 := HC.out _ (Fr.trans w2 e3 (fun _ _ f => f.elim))
  refine ⟨_, rfl, hS63, fun a1_63 fa1_63 => ?_⟩
  clear fa1_62
  have hk6 := HSD.out G3 ⟨c3.pa, M.ps.length, c3.cp⟩ ⟨c3.sa, M.ss.length, c3.cs⟩ ⟨c3.ka, M.ks.length, c3.ck⟩ hc3.cp (sw _ w3)
  have r_a1_64 : (execOp a1_63.eval { dst := some 72, op := Op.call { callee := Callee.value (Operand.func 6), args := #[Operand.tmp 70, Operand.tmp 71], argTypes := #[26, 26] }, type := 4, pos := "law.go:128", after := #[{ on := 10, ground := Ground.data }, { on := 11, ground := Ground.data }, { on := 10, ground := Ground.chain }, { on := 8, ground := Ground.guard }], guard := some (8, true) }).run Try.prog (G3) = .ok (.enter 6 #[.agg #[.slice c3.pa M.ps.length c3.cp, .slice c3.sa M.ss.length c3.cs, .slice c3.ka M.ks.length c3.ck], .agg #[.slice q.pa M.ps.length q.cp, .slice q.sa M.ss.length q.cs, .slice q.ka M.ks.length q.ck]]) (G3) := by
    have kf : ∀ f, a1_63.eval (.func f) = .func (.func f) #[] #[] := fun _ => rfl
    have e70 := (show a1_63.eval (.tmp 70) = .agg #[.slice c3.pa M.ps.length c3.cp, .slice c3.sa M.ss.length c3.cs, .slice c3.ka M.ks.length c3.ck] from (fa1_63.at_ 70))
    have e71 := (show a1_63.eval (.tmp 71) = .agg #[.slice q.pa M.ps.length q.cp, .slice q.sa M.ss.length q.cs, .slice q.ka M.ks.length q.ck] from (fa1_63.at_ 71))
    clear fa1_63 
    generalize a1_63.eval = ρ at *
    go_simp
  refine fa1_63.oneCall 12 72 (by kernel_rfl) rfl rfl (lb_ hF.size) ((wanted_at (t := 68) (c := true) (b := true) rfl rfl rfl (lb_ (fa1_63.size.trans hF.size)) (fa1_63.at_ 68)).trans (by rfl)) r_a1_64 (hk6) (fun e G4 hR => ?_)
  obtain ⟨rfl, e4⟩ := hR
  clear r_a1_64
  have w4 := Fr.trans w3 e4 (fun _ _ f => f.elim)
  have hS64 : (fun Z => (Z.cell? ⟨w.heap.size, 0, none⟩ = some (.slice r.pa N.ps.length r.cp) ∧ Z.cell? ⟨w.heap.size, 1, none⟩ = some (.slice r.sa N.ss.length r.cs) ∧ Z.cell? ⟨w.heap.size, 2, none⟩ = some (.slice r.ka N.ks.length r.ck)) ∧ (Z.cell? ⟨w.heap.size + 1, 0, none⟩ = some (.slice q.pa M.ps.length q.cp) ∧ Z.cell? ⟨w.heap.size + 1, 1, none⟩ = some (.slice q.sa M.ss.length q.cs) ∧ Z.cell? ⟨w.heap.size + 1, 2, none⟩ = some (.slice q.ka M.ks.length q.ck)) ∧ (Z.cell? ⟨b, 0, none⟩ = some (.slice xpa xpn xpc) ∧ Z.cell? ⟨b, 1, none⟩ = some (.slice xsa xsn xsc) ∧ Z.cell? ⟨b, 2, none⟩ = some (.slice xka xkn xkc)) ∧ (Z.cell? ⟨d, 0, none⟩ = some (.slice ypa ypn ypc) ∧ Z.cell? ⟨d, 1, none⟩ = some (.slice ysa ysn ysc) ∧ Z.cell? ⟨d, 2, none⟩ = some (.slice yka ykn ykc)) ∧ (Z.cell? ⟨B1.heap.size, 0, none⟩ = some (.slice c1.pa N.ps.length c1.cp) ∧ Z.cell? ⟨B1.heap.size, 1, none⟩ = some (.slice c1.sa N.ss.length c1.cs) ∧ Z.cell? ⟨B1.heap.size, 2, none⟩ = some (.slice c1.ka N.ks.length c1.ck)) ∧ Z.cell? ⟨C1.heap.size, 0, none⟩ = some (.slice c2.pa N.ps.length c2.cp) ∧ Z.cell? ⟨C1.heap.size, 1, none⟩ = some (.slice c2.sa N.ss.length c2.cs) ∧ Z.cell? ⟨C1.heap.size, 2, none⟩ = some (.slice c2.ka N.ks.length c2.ck)) G4 := HC.out _ (Fr.trans w3 e4 (fun _ _ f => f.elim))
  refine ⟨_, rfl, hS64, fun a1_64 fa1_64 => ?_⟩
  clear fa1_63
  have r_a1_65 : ∀ Z, (fun Z => (Z.cell? ⟨w.heap.size, 0, none⟩ = some (.slice r.pa N.ps.length r.cp) ∧ Z.cell? ⟨w.heap.size, 1, none⟩ = some (.slice r.sa N.ss.length r.cs) ∧ Z.cell? ⟨w.heap.size, 2, none⟩ = some (.slice r.ka N.ks.length r.ck)) ∧ (Z.cell? ⟨w.heap.size + 1, 0, none⟩ = some (.slice q.pa M.ps.length q.cp) ∧ Z.cell? ⟨w.heap.size + 1, 1, none⟩ = some (.slice q.sa M.ss.length q.cs) ∧ Z.cell? ⟨w.heap.size + 1, 2, none⟩ = some (.slice q.ka M.ks.length q.ck)) ∧ (Z.cell? ⟨b, 0, none⟩ = some (.slice xpa xpn xpc) ∧ Z.cell? ⟨b, 1, none⟩ = some (.slice xsa xsn xsc) ∧ Z.cell? ⟨b, 2, none⟩ = some (.slice xka xkn xkc)) ∧ (Z.cell? ⟨d, 0, none⟩ = some (.slice ypa ypn ypc) ∧ Z.cell? ⟨d, 1, none⟩ = some (.slice ysa ysn ysc) ∧ Z.cell? ⟨d, 2, none⟩ = some (.slice yka ykn ykc)) ∧ (Z.cell? ⟨B1.heap.size, 0, none⟩ = some (.slice c1.pa N.ps.length c1.cp) ∧ Z.cell? ⟨B1.heap.size, 1, none⟩ = some (.slice c1.sa N.ss.length c1.cs) ∧ Z.cell? ⟨B1.heap.size, 2, none⟩ = some (.slice c1.ka N.ks.length c1.ck)) ∧ Z.cell? ⟨C1.heap.size, 0, none⟩ = some (.slice c2.pa N.ps.length c2.cp) ∧ Z.cell? ⟨C1.heap.size, 1, none⟩ = some (.slice c2.sa N.ss.length c2.cs) ∧ Z.cell? ⟨C1.heap.size, 2, none⟩ = some (.slice c2.ka N.ks.length c2.ck)) Z → (execOp a1_64.eval { dst := some 73, op := Op.pick (Operand.tmp 68) (Operand.tmp 72) (Operand.const (Value.bool false)), type := 4, pos := "law.go:128", after := #[{ on := 8, ground := Ground.data }, { on := 12, ground := Ground.data }], guard := none }).run Try.prog Z = .ok (.value (.bool true)) Z := fun Z hZ => by
    have kc : ∀ v, a1_64.eval (.const v) = v := fun _ => rfl
    have e68 := (show a1_64.eval (.tmp 68) = .bool true from (fa1_64.at_ 68))
    have e72 := (show a1_64.eval (.tmp 72) = .bool true from (fa1_64.at_ 72))
    clear fa1_64 
    generalize a1_64.eval = ρ at *
    go_simp
  refine fa1_64.take 13 73 (.bool true) rfl (by kernel_rfl) (by kernel_rfl) (by kernel_rfl) (fun _ _ _ h => h) rfl (lb_ hF.size) (wanted_none rfl) r_a1_65 hS64 (fun a1_65 fa1_65 => ?_)
  clear r_a1_65
  clear fa1_64
  refine fa1_65.takeMove 14 74 (.bool true) _ (Or.inl rfl) rfl (by kernel_rfl) (by kernel_rfl) (by kernel_rfl) (fun _ _ _ h => h) rfl (lb_ hF.size) (wanted_none rfl) (fa1_65.at_ 73) hS64 (fun a1_66 fa1_66 => ?_)
  clear fa1_65
  have r_a1_67 : ∀ Z, (fun Z => (Z.cell? ⟨w.heap.size, 0, none⟩ = some (.slice r.pa N.ps.length r.cp) ∧ Z.cell? ⟨w.heap.size, 1, none⟩ = some (.slice r.sa N.ss.length r.cs) ∧ Z.cell? ⟨w.heap.size, 2, none⟩ = some (.slice r.ka N.ks.length r.ck)) ∧ (Z.cell? ⟨w.heap.size + 1, 0, none⟩ = some (.slice q.pa M.ps.length q.cp) ∧ Z.cell? ⟨w.heap.size + 1, 1, none⟩ = some (.slice q.sa M.ss.length q.cs) ∧ Z.cell? ⟨w.heap.size + 1, 2, none⟩ = some (.slice q.ka M.ks.length q.ck)) ∧ (Z.cell? ⟨b, 0, none⟩ = some (.slice xpa xpn xpc) ∧ Z.cell? ⟨b, 1, none⟩ = some (.slice xsa xsn xsc) ∧ Z.cell? ⟨b, 2, none⟩ = some (.slice xka xkn xkc)) ∧ (Z.cell? ⟨d, 0, none⟩ = some (.slice ypa ypn ypc) ∧ Z.cell? ⟨d, 1, none⟩ = some (.slice ysa ysn ysc) ∧ Z.cell? ⟨d, 2, none⟩ = some (.slice yka ykn ykc)) ∧ (Z.cell? ⟨B1.heap.size, 0, none⟩ = some (.slice c1.pa N.ps.length c1.cp) ∧ Z.cell? ⟨B1.heap.size, 1, none⟩ = some (.slice c1.sa N.ss.length c1.cs) ∧ Z.cell? ⟨B1.heap.size, 2, none⟩ = some (.slice c1.ka N.ks.length c1.ck)) ∧ Z.cell? ⟨C1.heap.size, 0, none⟩ = some (.slice c2.pa N.ps.length c2.cp) ∧ Z.cell? ⟨C1.heap.size, 1, none⟩ = some (.slice c2.sa N.ss.length c2.cs) ∧ Z.cell? ⟨C1.heap.size, 2, none⟩ = some (.slice c2.ka N.ks.length c2.ck)) Z → (execOp a1_66.eval { dst := some 75, op := Op.load 26 (Operand.tmp 6), type := 26, pos := "law.go:128", after := #[{ on := 14, ground := Ground.guard }], guard := some (14, true) }).run Try.prog Z = .ok (.value (.agg #[.slice ypa ypn ypc, .slice ysa ysn ysc, .slice yka ykn ykc])) Z := fun Z hZ => by
    obtain ⟨⟨az0, az1, az2⟩, ⟨bz0, bz1, bz2⟩, ⟨xz0, xz1, xz2⟩, ⟨yz0, yz1, yz2⟩, ⟨cz0, cz1, cz2⟩, dz0, dz1, dz2⟩ := hZ
    have e6 := (show a1_66.eval (.tmp 6) = .pointer (some ⟨d, 0, none⟩) from ((fa1_66.at_ 6).trans hF.s6))
    clear fa1_66 
    generalize a1_66.eval = ρ at *
    go_simp
  refine fa1_66.take 15 75 (.agg #[.slice ypa ypn ypc, .slice ysa ysn ysc, .slice yka ykn ykc]) rfl (by kernel_rfl) (by kernel_rfl) (by kernel_rfl) (fun _ _ _ h => h) rfl (lb_ hF.size) ((wanted_at (t := 74) (c := true) (b := true) rfl rfl rfl (lb_ (fa1_66.size.trans hF.size)) (fa1_66.at_ 74)).trans (by rfl)) r_a1_67 hS64 (fun a1_67 fa1_67 => ?_)
  clear r_a1_67
  clear fa1_66
  have r_a1_68 : ∀ Z, (fun Z => (Z.cell? ⟨w.heap.size, 0, none⟩ = some (.slice r.pa N.ps.length r.cp) ∧ Z.cell? ⟨w.heap.size, 1, none⟩ = some (.slice r.sa N.ss.length r.cs) ∧ Z.cell? ⟨w.heap.size, 2, none⟩ = some (.slice r.ka N.ks.length r.ck)) ∧ (Z.cell? ⟨w.heap.size + 1, 0, none⟩ = some (.slice q.pa M.ps.length q.cp) ∧ Z.cell? ⟨w.heap.size + 1, 1, none⟩ = some (.slice q.sa M.ss.length q.cs) ∧ Z.cell? ⟨w.heap.size + 1, 2, none⟩ = some (.slice q.ka M.ks.length q.ck)) ∧ (Z.cell? ⟨b, 0, none⟩ = some (.slice xpa xpn xpc) ∧ Z.cell? ⟨b, 1, none⟩ = some (.slice xsa xsn xsc) ∧ Z.cell? ⟨b, 2, none⟩ = some (.slice xka xkn xkc)) ∧ (Z.cell? ⟨d, 0, none⟩ = some (.slice ypa ypn ypc) ∧ Z.cell? ⟨d, 1, none⟩ = some (.slice ysa ysn ysc) ∧ Z.cell? ⟨d, 2, none⟩ = some (.slice yka ykn ykc)) ∧ (Z.cell? ⟨B1.heap.size, 0, none⟩ = some (.slice c1.pa N.ps.length c1.cp) ∧ Z.cell? ⟨B1.heap.size, 1, none⟩ = some (.slice c1.sa N.ss.length c1.cs) ∧ Z.cell? ⟨B1.heap.size, 2, none⟩ = some (.slice c1.ka N.ks.length c1.ck)) ∧ Z.cell? ⟨C1.heap.size, 0, none⟩ = some (.slice c2.pa N.ps.length c2.cp) ∧ Z.cell? ⟨C1.heap.size, 1, none⟩ = some (.slice c2.sa N.ss.length c2.cs) ∧ Z.cell? ⟨C1.heap.size, 2, none⟩ = some (.slice c2.ka N.ks.length c2.ck)) Z → (execOp a1_67.eval { dst := some 76, op := Op.load 26 (Operand.tmp 3), type := 26, pos := "law.go:128", after := #[{ on := 14, ground := Ground.guard }], guard := some (14, true) }).run Try.prog Z = .ok (.value (.agg #[.slice q.pa M.ps.length q.cp, .slice q.sa M.ss.length q.cs, .slice q.ka M.ks.length q.ck])) Z := fun Z hZ => by
    obtain ⟨⟨az0, az1, az2⟩, ⟨bz0, bz1, bz2⟩, ⟨xz0, xz1, xz2⟩, ⟨yz0, yz1, yz2⟩, ⟨cz0, cz1, cz2⟩, dz0, dz1, dz2⟩ := hZ
    have e3 := (show a1_67.eval (.tmp 3) = .pointer (some ⟨w.heap.size + 1, 0, none⟩) from ((fa1_67.at_ 3).trans hF.s3))
    clear fa1_67 
    generalize a1_67.eval = ρ at *
    go_simp
  refine fa1_67.take 16 76 (.agg #[.slice q.pa M.ps.length q.cp, .slice q.sa M.ss.length q.cs, .slice q.ka M.ks.length q.ck]) rfl (by kernel_rfl) (by kernel_rfl) (by kernel_rfl) (fun _ _ _ h => h) rfl (lb_ hF.size) ((wanted_at (t := 74) (c := true) (b := true) rfl rfl rfl (lb_ (fa1_67.size.trans hF.size)) (fa1_67.at_ 74)).trans (by rfl)) r_a1_68 hS64 (fun a1_68 fa1_68 => ?_)
  clear r_a1_68
  clear fa1_67
  have r_a1_69 : (execOp a1_68.eval { dst := some 77, op := Op.call { callee := Callee.value (Operand.func 7), args := #[Operand.tmp 75, Operand.tmp 76], argTypes := #[26, 26] }, type := 4, pos := "law.go:128", after := #[{ on := 15, ground := Ground.data }, { on := 16, ground := Ground.data }, { on := 14, ground := Ground.chain }, { on := 14, ground := Ground.guard }], guard := some (14, true) }).run Try.prog (G4) = .ok (.enter 7 #[.agg #[.slice ypa ypn ypc, .slice ysa ysn ysc, .slice yka ykn ykc], .agg #[.slice q.pa M.ps.length q.cp, .slice q.sa M.ss.length q.cs, .slice q.ka M.ks.length q.ck]]) (G4) := by
    have kf : ∀ f, a1_68.eval (.func f) = .func (.func f) #[] #[] := fun _ => rfl
    have e75 := (show a1_68.eval (.tmp 75) = .agg #[.slice ypa ypn ypc, .slice ysa ysn ysc, .slice yka ykn ykc] from (fa1_68.at_ 75))
    have e76 := (show a1_68.eval (.tmp 76) = .agg #[.slice q.pa M.ps.length q.cp, .slice q.sa M.ss.length q.cs, .slice q.ka M.ks.length q.ck] from (fa1_68.at_ 76))
    clear fa1_68 
    generalize a1_68.eval = ρ at *
    go_simp
  refine fa1_68.oneCall 17 77 (by kernel_rfl) rfl rfl (lb_ hF.size) ((wanted_at (t := 74) (c := true) (b := true) rfl rfl rfl (lb_ (fa1_68.size.trans hF.size)) (fa1_68.at_ 74)).trans (by rfl)) r_a1_69 (HKK2.out G4 (HYG.out.same (e3.trans e4)) (sw _ w4)) (fun e G5 hR => ?_)
  obtain ⟨rfl, e5⟩ := hR
  clear r_a1_69
  have w5 := Fr.trans w4 e5 (fun _ _ f => f.elim)
  have hS69 : (fun Z => (Z.cell? ⟨w.heap.size, 0, none⟩ = some (.slice r.pa N.ps.length r.cp) ∧ Z.cell? ⟨w.heap.size, 1, none⟩ = some (.slice r.sa N.ss.length r.cs) ∧ Z.cell? ⟨w.heap.size, 2, none⟩ = some (.slice r.ka N.ks.length r.ck)) ∧ (Z.cell? ⟨w.heap.size + 1, 0, none⟩ = some (.slice q.pa M.ps.length q.cp) ∧ Z.cell? ⟨w.heap.size + 1, 1, none⟩ = some (.slice q.sa M.ss.length q.cs) ∧ Z.cell? ⟨w.heap.size + 1, 2, none⟩ = some (.slice q.ka M.ks.length q.ck)) ∧ (Z.cell? ⟨b, 0, none⟩ = some (.slice xpa xpn xpc) ∧ Z.cell? ⟨b, 1, none⟩ = some (.slice xsa xsn xsc) ∧ Z.cell? ⟨b, 2, none⟩ = some (.slice xka xkn xkc)) ∧ (Z.cell? ⟨d, 0, none⟩ = some (.slice ypa ypn ypc) ∧ Z.cell? ⟨d, 1, none⟩ = some (.slice ysa ysn ysc) ∧ Z.cell? ⟨d, 2, none⟩ = some (.slice yka ykn ykc)) ∧ (Z.cell? ⟨B1.heap.size, 0, none⟩ = some (.slice c1.pa N.ps.length c1.cp) ∧ Z.cell? ⟨B1.heap.size, 1, none⟩ = some (.slice c1.sa N.ss.length c1.cs) ∧ Z.cell? ⟨B1.heap.size, 2, none⟩ = some (.slice c1.ka N.ks.length c1.ck)) ∧ Z.cell? ⟨C1.heap.size, 0, none⟩ = some (.slice c2.pa N.ps.length c2.cp) ∧ Z.cell? ⟨C1.heap.size, 1, none⟩ = some (.slice c2.sa N.ss.length c2.cs) ∧ Z.cell? ⟨C1.heap.size, 2, none⟩ = some (.slice c2.ka N.ks.length c2.ck)) G5 := HC.out _ (Fr.trans w4 e5 (fun _ _ f => f.elim))
  refine ⟨_, rfl, hS69, fun a1_69 fa1_69 => ?_⟩
  clear fa1_68
  have r_a1_70 : ∀ Z, (fun Z => (Z.cell? ⟨w.heap.size, 0, none⟩ = some (.slice r.pa N.ps.length r.cp) ∧ Z.cell? ⟨w.heap.size, 1, none⟩ = some (.slice r.sa N.ss.length r.cs) ∧ Z.cell? ⟨w.heap.size, 2, none⟩ = some (.slice r.ka N.ks.length r.ck)) ∧ (Z.cell? ⟨w.heap.size + 1, 0, none⟩ = some (.slice q.pa M.ps.length q.cp) ∧ Z.cell? ⟨w.heap.size + 1, 1, none⟩ = some (.slice q.sa M.ss.length q.cs) ∧ Z.cell? ⟨w.heap.size + 1, 2, none⟩ = some (.slice q.ka M.ks.length q.ck)) ∧ (Z.cell? ⟨b, 0, none⟩ = some (.slice xpa xpn xpc) ∧ Z.cell? ⟨b, 1, none⟩ = some (.slice xsa xsn xsc) ∧ Z.cell? ⟨b, 2, none⟩ = some (.slice xka xkn xkc)) ∧ (Z.cell? ⟨d, 0, none⟩ = some (.slice ypa ypn ypc) ∧ Z.cell? ⟨d, 1, none⟩ = some (.slice ysa ysn ysc) ∧ Z.cell? ⟨d, 2, none⟩ = some (.slice yka ykn ykc)) ∧ (Z.cell? ⟨B1.heap.size, 0, none⟩ = some (.slice c1.pa N.ps.length c1.cp) ∧ Z.cell? ⟨B1.heap.size, 1, none⟩ = some (.slice c1.sa N.ss.length c1.cs) ∧ Z.cell? ⟨B1.heap.size, 2, none⟩ = some (.slice c1.ka N.ks.length c1.ck)) ∧ Z.cell? ⟨C1.heap.size, 0, none⟩ = some (.slice c2.pa N.ps.length c2.cp) ∧ Z.cell? ⟨C1.heap.size, 1, none⟩ = some (.slice c2.sa N.ss.length c2.cs) ∧ Z.cell? ⟨C1.heap.size, 2, none⟩ = some (.slice c2.ka N.ks.length c2.ck)) Z → (execOp a1_69.eval { dst := some 78, op := Op.pick (Operand.tmp 74) (Operand.tmp 77) (Operand.const (Value.bool false)), type := 4, pos := "law.go:128", after := #[{ on := 14, ground := Ground.data }, { on := 17, ground := Ground.data }], guard := none }).run Try.prog Z = .ok (.value (.bool true)) Z := fun Z hZ => by
    have kc : ∀ v, a1_69.eval (.const v) = v := fun _ => rfl
    have e74 := (show a1_69.eval (.tmp 74) = .bool true from (fa1_69.at_ 74))
    have e77 := (show a1_69.eval (.tmp 77) = .bool true from (fa1_69.at_ 77))
    clear fa1_69 
    generalize a1_69.eval = ρ at *
    go_simp
  refine fa1_69.take 18 78 (.bool true) rfl (by kernel_rfl) (by kernel_rfl) (by kernel_rfl) (fun _ _ _ h => h) rfl (lb_ hF.size) (wanted_none rfl) r_a1_70 hS69 (fun a1_70 fa1_70 => ?_)
  clear r_a1_70
  clear fa1_69
  refine fa1_70.takeMove 19 79 (.bool true) _ (Or.inl rfl) rfl (by kernel_rfl) (by kernel_rfl) (by kernel_rfl) (fun _ _ _ h => h) rfl (lb_ hF.size) (wanted_none rfl) (fa1_70.at_ 78) hS69 (fun a1_71 fa1_71 => ?_)
  clear fa1_70
  have r_a1_72 : (execOp a1_71.eval { dst := some 80, op := Op.call { callee := Callee.value (Operand.func 11), args := #[], argTypes := #[] }, type := 4, pos := "law.go:128", after := #[{ on := 19, ground := Ground.chain }, { on := 19, ground := Ground.guard }], guard := some (19, true) }).run Try.prog (G5) = .ok (.enter 11 #[]) (G5) := by
    have kf : ∀ f, a1_71.eval (.func f) = .func (.func f) #[] #[] := fun _ => rfl
    clear fa1_71 
    generalize a1_71.eval = ρ at *
    go_simp
  refine fa1_71.oneCall 20 80 (by kernel_rfl) rfl rfl (lb_ hF.size) ((wanted_at (t := 79) (c := true) (b := true) rfl rfl rfl (lb_ (fa1_71.size.trans hF.size)) (fa1_71.at_ 79)).trans (by rfl)) r_a1_72 (lives_calls G5) (fun e G6 hR => ?_)
  obtain ⟨rfl, e6⟩ := hR
  clear r_a1_72
  have w6 := Fr.trans w5 e6 (fun _ _ f => f.elim)
  have hS72 : (fun Z => (Z.cell? ⟨w.heap.size, 0, none⟩ = some (.slice r.pa N.ps.length r.cp) ∧ Z.cell? ⟨w.heap.size, 1, none⟩ = some (.slice r.sa N.ss.length r.cs) ∧ Z.cell? ⟨w.heap.size, 2, none⟩ = some (.slice r.ka N.ks.length r.ck)) ∧ (Z.cell? ⟨w.heap.size + 1, 0, none⟩ = some (.slice q.pa M.ps.length q.cp) ∧ Z.cell? ⟨w.heap.size + 1, 1, none⟩ = some (.slice q.sa M.ss.length q.cs) ∧ Z.cell? ⟨w.heap.size + 1, 2, none⟩ = some (.slice q.ka M.ks.length q.ck)) ∧ (Z.cell? ⟨b, 0, none⟩ = some (.slice xpa xpn xpc) ∧ Z.cell? ⟨b, 1, none⟩ = some (.slice xsa xsn xsc) ∧ Z.cell? ⟨b, 2, none⟩ = some (.slice xka xkn xkc)) ∧ (Z.cell? ⟨d, 0, none⟩ = some (.slice ypa ypn ypc) ∧ Z.cell? ⟨d, 1, none⟩ = some (.slice ysa ysn ysc) ∧ Z.cell? ⟨d, 2, none⟩ = some (.slice yka ykn ykc)) ∧ (Z.cell? ⟨B1.heap.size, 0, none⟩ = some (.slice c1.pa N.ps.length c1.cp) ∧ Z.cell? ⟨B1.heap.size, 1, none⟩ = some (.slice c1.sa N.ss.length c1.cs) ∧ Z.cell? ⟨B1.heap.size, 2, none⟩ = some (.slice c1.ka N.ks.length c1.ck)) ∧ Z.cell? ⟨C1.heap.size, 0, none⟩ = some (.slice c2.pa N.ps.length c2.cp) ∧ Z.cell? ⟨C1.heap.size, 1, none⟩ = some (.slice c2.sa N.ss.length c2.cs) ∧ Z.cell? ⟨C1.heap.size, 2, none⟩ = some (.slice c2.ka N.ks.length c2.ck)) G6 := HC.out _ (Fr.trans w5 e6 (fun _ _ f => f.elim))
  refine ⟨_, rfl, hS72, fun a1_72 fa1_72 => ?_⟩
  clear fa1_71
  have r_a1_73 : ∀ Z, (fun Z => (Z.cell? ⟨w.heap.size, 0, none⟩ = some (.slice r.pa N.ps.length r.cp) ∧ Z.cell? ⟨w.heap.size, 1, none⟩ = some (.slice r.sa N.ss.length r.cs) ∧ Z.cell? ⟨w.heap.size, 2, none⟩ = some (.slice r.ka N.ks.length r.ck)) ∧ (Z.cell? ⟨w.heap.size + 1, 0, none⟩ = some (.slice q.pa M.ps.length q.cp) ∧ Z.cell? ⟨w.heap.size + 1, 1, none⟩ = some (.slice q.sa M.ss.length q.cs) ∧ Z.cell? ⟨w.heap.size + 1, 2, none⟩ = some (.slice q.ka M.ks.length q.ck)) ∧ (Z.cell? ⟨b, 0, none⟩ = some (.slice xpa xpn xpc) ∧ Z.cell? ⟨b, 1, none⟩ = some (.slice xsa xsn xsc) ∧ Z.cell? ⟨b, 2, none⟩ = some (.slice xka xkn xkc)) ∧ (Z.cell? ⟨d, 0, none⟩ = some (.slice ypa ypn ypc) ∧ Z.cell? ⟨d, 1, none⟩ = some (.slice ysa ysn ysc) ∧ Z.cell? ⟨d, 2, none⟩ = some (.slice yka ykn ykc)) ∧ (Z.cell? ⟨B1.heap.size, 0, none⟩ = some (.slice c1.pa N.ps.length c1.cp) ∧ Z.cell? ⟨B1.heap.size, 1, none⟩ = some (.slice c1.sa N.ss.length c1.cs) ∧ Z.cell? ⟨B1.heap.size, 2, none⟩ = some (.slice c1.ka N.ks.length c1.ck)) ∧ Z.cell? ⟨C1.heap.size, 0, none⟩ = some (.slice c2.pa N.ps.length c2.cp) ∧ Z.cell? ⟨C1.heap.size, 1, none⟩ = some (.slice c2.sa N.ss.length c2.cs) ∧ Z.cell? ⟨C1.heap.size, 2, none⟩ = some (.slice c2.ka N.ks.length c2.ck)) Z → (execOp a1_72.eval { dst := some 81, op := Op.pick (Operand.tmp 79) (Operand.tmp 80) (Operand.const (Value.bool false)), type := 4, pos := "law.go:128", after := #[{ on := 19, ground := Ground.data }, { on := 20, ground := Ground.data }], guard := none }).run Try.prog Z = .ok (.value (.bool true)) Z := fun Z hZ => by
    have kc : ∀ v, a1_72.eval (.const v) = v := fun _ => rfl
    have e79 := (show a1_72.eval (.tmp 79) = .bool true from (fa1_72.at_ 79))
    have e80 := (show a1_72.eval (.tmp 80) = .bool true from (fa1_72.at_ 80))
    clear fa1_72 
    generalize a1_72.eval = ρ at *
    go_simp
  refine fa1_72.take 21 81 (.bool true) rfl (by kernel_rfl) (by kernel_rfl) (by kernel_rfl) (fun _ _ _ h => h) rfl (lb_ hF.size) (wanted_none rfl) r_a1_73 hS72 (fun a1_73 fa1_73 => ?_)
  clear r_a1_73
  clear fa1_72
  refine fa1_73.takeMove 22 4 (.bool true) _ (Or.inr rfl) rfl (by kernel_rfl) (by kernel_rfl) (by kernel_rfl) (fun _ _ _ h => h) rfl (lb_ hF.size) (wanted_none rfl) (fa1_73.at_ 81) hS72 (fun a1_74 fa1_74 => ?_)
  clear fa1_73
  refine wpAnyH_done (by kernel_rfl) ?_ _
  change Code.wp _ _ _ _ _
  refine wp_ret ?_
  try simp only [Exit.then]
  exact ret_abs rfl (fa1_74.defers.trans hF.defers) (show a1_74.eval (.tmp 4) = .bool true from (fa1_74.at_ 4)) ⟨rfl, sw _ w6⟩
end Go.Proofs.Ytjlbkagkmcelgaa
