/- free: the walk of FreeLays. -/
import Derived.Test.YtneopkhkkfckcaaYU
import Derived.Test.YtneopkhkkfckcaaIC
namespace Go.Proofs.Ytneopkhkkfckcaa
open Go.RowKit Go.Maps

theorem LentC.lower {W : World} {B B2 g cc n : Nat} {L M : List Bt} (h : LentC W B g cc n L M) (hb : B2 ≤ B) : LentC W B2 g cc n L M :=
  ⟨own_base h.row hb, h.key, fun x hx => ⟨(h.lent x hx).no, (h.lent x hx).na, own_base (h.lent x hx).ns hb⟩⟩
theorem layM_of {vr m : Nat} {l : List Pgx} {er : Int} {w w' : World} {e : Ending} (hm : m = l.length) (h : LayIs vr l er w e w') : LayM vr m l er w e w' := by
  subst hm
  exact h
theorem layL_len {p q op : Int} {vr n pgs : Nat} {M ML : List Bt} : (layL p q op vr n pgs M ML).length ≤ ML.length := by
  unfold layL
  split
  · rw [laidP_len]; exact Nat.le_refl _
  · exact Nat.zero_le _
set_option maxRecDepth 100000 in
set_option maxHeartbeats 2000000 in
theorem flays_walk {p q op : Int} {vr n cp pb po tn tc tb to_ ln llc lb lo pgs : Nat} {pa ta la : Option Addr} {M ML : List Bt} {T : List Nat} (w : World) (hM : BiRow w pa pb po M) (hML : BiRow w la lb lo ML) (hTn : NIn w ta tb to_ tc T) (hn : n = M.length) (hln : ln = ML.length) (hT : tn = T.length) (hTl : T.length ≤ 1048576) (hwt : wt M + wt ML ≤ 1048576) :
    Calls Try.prog 4 #[.agg #[.int .i64 p, .int .i64 q], .agg #[.int .u64 (vr : Int), .slice pa n cp, .slice ta tn tc, .slice la ln llc, .int .i64 op, .int .u32 (pgs : Int)]] w fun e w' => e = .returned (.bool true) ∧ Same w w' := by
  obtain ⟨L, hL⟩ : ∃ L, L = layL p q op vr n pgs M ML := ⟨_, rfl⟩
  obtain ⟨er, hE⟩ : ∃ er, er = layE p q op vr n pgs M ML := ⟨_, rfl⟩
  obtain ⟨m, hm⟩ : ∃ m, m = L.length := ⟨_, rfl⟩
  have hm4 : m ≤ 4000000 := by
    have h1 : (layL p q op vr n pgs M ML).length ≤ ML.length := layL_len
    have h2 := wt_len ML
    rw [hm, hL]
    omega
  have kL : ∀ Z, Same w Z → Calls Try.prog 15 #[.agg #[.int .i64 p, .int .i64 q], .int .u64 (vr : Int), .slice pa n cp, .agg #[.slice ta tn tc, .slice la ln llc, .int .i64 op, .int .u32 (pgs : Int)]] Z fun e w' => LayM vr m L er Z e w' := fun Z s => by
    have := dlay_all (p := p) (q := q) (op := op) (vr := vr) (n := n) (c := cp) (llc := llc) (pgs := pgs) (tr := .slice ta tn tc) Z (hM.same s) (hML.same s) hn hwt
    rw [← hln, ← hL, ← hE] at this
    exact this.mono fun e w' h => layM_of hm h
  refine calls_abs (c := cFL) Try.func4 (by kernel_rfl) 130 rfl (by simp) (fun a0 hsz hd ha => ?_)
  have fa0_0 := Fe.refl a0
  unfold cFL
  refine wp_seq ?_
  refine wp_region_list ?_
  unfold rFL0
  have r_a0_1 : (execOp a0.eval { dst := some 2, op := Op.box 39 (Operand.tmp 0), type := 0, pos := "law.go:111", after := #[], guard := none }).run Try.prog (w) = .ok (.value (.pointer (some ⟨w.heap.size, 0, none⟩))) (w.alloc (.cells #[.int .i64 p, .int .i64 q] 39)) := by
    have e0 := (show a0.eval (.tmp 0) = .agg #[.int .i64 p, .int .i64 q] from ((fa0_0.at_ 0).trans (ha 0 _ rfl)))
    clear fa0_0 ha hn hln hT hm
    generalize a0.eval = ρ at *
    go_simp
  refine fa0_0.stepW 2 (.pointer (some ⟨w.heap.size, 0, none⟩)) rfl (lb_ hsz) (wanted_none rfl) r_a0_1 (fun a0_1 fa0_1 => ?_)
  clear r_a0_1
  clear fa0_0
  have r_a0_2 : (execOp a0_1.eval { dst := some 3, op := Op.box 42 (Operand.tmp 1), type := 0, pos := "law.go:111", after := #[], guard := none }).run Try.prog (w.alloc (.cells #[.int .i64 p, .int .i64 q] 39)) = .ok (.value (.pointer (some ⟨w.heap.size + 1, 0, none⟩))) ((w.alloc (.cells #[.int .i64 p, .int .i64 q] 39)).alloc (.cells #[.int .u64 (vr : Int), .slice pa n cp, .slice ta tn tc, .slice la ln llc, .int .i64 op, .int .u32 (pgs : Int)] 42)) := by
    have e1 := (show a0_1.eval (.tmp 1) = .agg #[.int .u64 (vr : Int), .slice pa n cp, .slice ta tn tc, .slice la ln llc, .int .i64 op, .int .u32 (pgs : Int)] from ((fa0_1.at_ 1).trans (ha 1 _ rfl)))
    clear fa0_1 ha hn hln hT hm
    generalize a0_1.eval = ρ at *
    go_simp
  refine fa0_1.stepW 3 (.pointer (some ⟨w.heap.size + 1, 0, none⟩)) rfl (lb_ hsz) (wanted_none rfl) r_a0_2 (fun a0_2 fa0_2 => ?_)
  clear r_a0_2
  clear fa0_1
  refine fa0_2.move 4 (.bool false) _ (Or.inr rfl) rfl (lb_ hsz) (wanted_none rfl) rfl (fun a0_3 fa0_3 => ?_)
  clear fa0_2
  refine wpList_nil ?_
  obtain ⟨V, hV⟩ : ∃ V, V = (w.alloc (.cells #[.int .i64 p, .int .i64 q] 39)).alloc (.cells #[.int .u64 (vr : Int), .slice pa n cp, .slice ta tn tc, .slice la ln llc, .int .i64 op, .int .u32 (pgs : Int)] 42) := ⟨_, rfl⟩
  rw [← hV]
  have sV : Same w V := by rw [hV]; exact ((Fr.refl _ w).alloc _).alloc _
  have r0 : V.heap[w.heap.size]? = some (.cells #[.int .i64 p, .int .i64 q] 39 (0, 0)) := by rw [hV]; exact (((Fr.refl (fun _ => False) (w.alloc (.cells #[.int .i64 p, .int .i64 q] 39))).alloc _).block _ (by simp) (fun f => f)).trans (heap_alloc_new w _)
  have r1 : V.heap[w.heap.size + 1]? = some (.cells #[.int .u64 (vr : Int), .slice pa n cp, .slice ta tn tc, .slice la ln llc, .int .i64 op, .int .u32 (pgs : Int)] 42 (0, 0)) := by
    rw [hV]
    have := heap_alloc_new (w.alloc (.cells #[.int .i64 p, .int .i64 q] 39)) (.cells #[.int .u64 (vr : Int), .slice pa n cp, .slice ta tn tc, .slice la ln llc, .int .i64 op, .int .u32 (pgs : Int)] 42)
    simpa using this
  have d0 : V.cell? ⟨w.heap.size, 0, none⟩ = some (.int .i64 p) := (cell_of_row _ _ _ _ _ _ r0).trans rfl
  have d1 : V.cell? ⟨w.heap.size, 1, none⟩ = some (.int .i64 q) := (cell_of_row _ _ _ _ _ _ r0).trans rfl
  have c0 : V.cell? ⟨w.heap.size + 1, 0, none⟩ = some (.int .u64 (vr : Int)) := (cell_of_row _ _ _ _ _ _ r1).trans rfl
  have c1 : V.cell? ⟨w.heap.size + 1, 1, none⟩ = some (.slice pa n cp) := (cell_of_row _ _ _ _ _ _ r1).trans rfl
  have c2 : V.cell? ⟨w.heap.size + 1, 2, none⟩ = some (.slice ta tn tc) := (cell_of_row _ _ _ _ _ _ r1).trans rfl
  have c3 : V.cell? ⟨w.heap.size + 1, 3, none⟩ = some (.slice la ln llc) := (cell_of_row _ _ _ _ _ _ r1).trans rfl
  have c4 : V.cell? ⟨w.heap.size + 1, 4, none⟩ = some (.int .i64 op) := (cell_of_row _ _ _ _ _ _ r1).trans rfl
  have c5 : V.cell? ⟨w.heap.size + 1, 5, none⟩ = some (.int .u32 (pgs : Int)) := (cell_of_row _ _ _ _ _ _ r1).trans rfl
  clear hV
  change Code.wp _ _ _ _ _
  refine wp_seq ?_
  refine wp_region_list ?_
  unfold rFL1
  have r_a0_4 : (execOp a0_3.eval { dst := some 16, op := Op.load 39 (Operand.tmp 2), type := 39, pos := "law.go:112", after := #[], guard := none }).run Try.prog (V) = .ok (.value (.agg #[.int .i64 p, .int .i64 q])) (V) := by
    have e2 := (show a0_3.eval (.tmp 2) = .pointer (some ⟨w.heap.size, 0, none⟩) from (fa0_3.at_ 2))
    clear fa0_3 ha hn hln hT hm
    generalize a0_3.eval = ρ at *
    go_simp
  refine fa0_3.step 16 (.agg #[.int .i64 p, .int .i64 q]) rfl (lb_ hsz) (wanted_none rfl) r_a0_4 (fun a0_4 fa0_4 => ?_)
  clear r_a0_4
  clear fa0_3
  have r_a0_5 : (execOp a0_4.eval { dst := some 17, op := Op.fieldAddr 42 (Operand.tmp 3) 0, type := 0, pos := "law.go:112", after := #[], guard := none }).run Try.prog (V) = .ok (.value (.pointer (some ⟨w.heap.size + 1, 0, none⟩))) (V) := by
    have e3 := (show a0_4.eval (.tmp 3) = .pointer (some ⟨w.heap.size + 1, 0, none⟩) from (fa0_4.at_ 3))
    clear fa0_4 ha hn hln hT hm
    generalize a0_4.eval = ρ at *
    go_simp
  refine fa0_4.step 17 (.pointer (some ⟨w.heap.size + 1, 0, none⟩)) rfl (lb_ hsz) (wanted_none rfl) r_a0_5 (fun a0_5 fa0_5 => ?_)
  clear r_a0_5
  clear fa0_4
  have r_a0_6 : (execOp a0_5.eval { dst := some 18, op := Op.load 40 (Operand.tmp 17), type := 40, pos := "law.go:112", after := #[{ on := 1, ground := Ground.data }], guard := none }).run Try.prog (V) = .ok (.value (.int .u64 (vr : Int))) (V) := by
    have e17 := (show a0_5.eval (.tmp 17) = .pointer (some ⟨w.heap.size + 1, 0, none⟩) from (fa0_5.at_ 17))
    clear fa0_5 ha hn hln hT hm
    generalize a0_5.eval = ρ at *
    go_simp
  refine fa0_5.step 18 (.int .u64 (vr : Int)) rfl (lb_ hsz) (wanted_none rfl) r_a0_6 (fun a0_6 fa0_6 => ?_)
  clear r_a0_6
  clear fa0_5
  have r_a0_7 : (execOp a0_6.eval { dst := some 19, op := Op.fieldAddr 42 (Operand.tmp 3) 1, type := 0, pos := "law.go:112", after := #[], guard := none }).run Try.prog (V) = .ok (.value (.pointer (some ⟨w.heap.size + 1, 1, none⟩))) (V) := by
    have e3 := (show a0_6.eval (.tmp 3) = .pointer (some ⟨w.heap.size + 1, 0, none⟩) from (fa0_6.at_ 3))
    clear fa0_6 ha hn hln hT hm
    generalize a0_6.eval = ρ at *
    go_simp
  refine fa0_6.step 19 (.pointer (some ⟨w.heap.size + 1, 1, none⟩)) rfl (lb_ hsz) (wanted_none rfl) r_a0_7 (fun a0_7 fa0_7 => ?_)
  clear r_a0_7
  clear fa0_6
  have r_a0_8 : (execOp a0_7.eval { dst := some 20, op := Op.load 22 (Operand.tmp 19), type := 22, pos := "law.go:112", after := #[{ on := 3, ground := Ground.data }], guard := none }).run Try.prog (V) = .ok (.value (.slice pa n cp)) (V) := by
    have e19 := (show a0_7.eval (.tmp 19) = .pointer (some ⟨w.heap.size + 1, 1, none⟩) from (fa0_7.at_ 19))
    clear fa0_7 ha hn hln hT hm
    generalize a0_7.eval = ρ at *
    go_simp
  refine fa0_7.step 20 (.slice pa n cp) rfl (lb_ hsz) (wanted_none rfl) r_a0_8 (fun a0_8 fa0_8 => ?_)
  clear r_a0_8
  clear fa0_7
  have r_a0_9 : (execOp a0_8.eval { dst := some 21, op := Op.fieldAddr 42 (Operand.tmp 3) 2, type := 0, pos := "law.go:112", after := #[], guard := none }).run Try.prog (V) = .ok (.value (.pointer (some ⟨w.heap.size + 1, 2, none⟩))) (V) := by
    have e3 := (show a0_8.eval (.tmp 3) = .pointer (some ⟨w.heap.size + 1, 0, none⟩) from (fa0_8.at_ 3))
    clear fa0_8 ha hn hln hT hm
    generalize a0_8.eval = ρ at *
    go_simp
  refine fa0_8.step 21 (.pointer (some ⟨w.heap.size + 1, 2, none⟩)) rfl (lb_ hsz) (wanted_none rfl) r_a0_9 (fun a0_9 fa0_9 => ?_)
  clear r_a0_9
  clear fa0_8
  have r_a0_10 : (execOp a0_9.eval { dst := some 22, op := Op.load 26 (Operand.tmp 21), type := 26, pos := "law.go:112", after := #[{ on := 5, ground := Ground.data }], guard := none }).run Try.prog (V) = .ok (.value (.agg #[.slice ta tn tc, .slice la ln llc, .int .i64 op, .int .u32 (pgs : Int)])) (V) := by
    have e21 := (show a0_9.eval (.tmp 21) = .pointer (some ⟨w.heap.size + 1, 2, none⟩) from (fa0_9.at_ 21))
    clear fa0_9 ha hn hln hT hm
    generalize a0_9.eval = ρ at *
    go_simp
  refine fa0_9.step 22 (.agg #[.slice ta tn tc, .slice la ln llc, .int .i64 op, .int .u32 (pgs : Int)]) rfl (lb_ hsz) (wanted_none rfl) r_a0_10 (fun a0_10 fa0_10 => ?_)
  clear r_a0_10
  clear fa0_9
  have r_a0_11 : (execOp a0_10.eval { dst := some 23, op := Op.call { callee := Callee.value (Operand.func 15), args := #[Operand.tmp 16, Operand.tmp 18, Operand.tmp 20, Operand.tmp 22], argTypes := #[39, 40, 22, 26] }, type := 44, pos := "law.go:112", after := #[{ on := 0, ground := Ground.data }, { on := 2, ground := Ground.data }, { on := 4, ground := Ground.data }, { on := 6, ground := Ground.data }], guard := none }).run Try.prog (V) = .ok (.enter 15 #[.agg #[.int .i64 p, .int .i64 q], .int .u64 (vr : Int), .slice pa n cp, .agg #[.slice ta tn tc, .slice la ln llc, .int .i64 op, .int .u32 (pgs : Int)]]) (V) := by
    have kf : ∀ f, a0_10.eval (.func f) = .func (.func f) #[] #[] := fun _ => rfl
    have e16 := (show a0_10.eval (.tmp 16) = .agg #[.int .i64 p, .int .i64 q] from (fa0_10.at_ 16))
    have e18 := (show a0_10.eval (.tmp 18) = .int .u64 (vr : Int) from (fa0_10.at_ 18))
    have e20 := (show a0_10.eval (.tmp 20) = .slice pa n cp from (fa0_10.at_ 20))
    have e22 := (show a0_10.eval (.tmp 22) = .agg #[.slice ta tn tc, .slice la ln llc, .int .i64 op, .int .u32 (pgs : Int)] from (fa0_10.at_ 22))
    clear fa0_10 ha hn hln hT hm
    generalize a0_10.eval = ρ at *
    go_simp
  refine fa0_10.call 23 rfl (lb_ hsz) (wanted_none rfl) r_a0_11 (kL V sV) (fun e W5 hR => ?_)
  obtain ⟨⟨ow, cw, rfl, o5⟩, s5⟩ := hR
  clear r_a0_11
  have c1x := s5.keep c1
  refine ⟨_, rfl, fun a0_11 fa0_11 => ?_⟩
  clear fa0_10
  refine fa0_11.move 15 (.tuple #[.slice ow m cw, .int .i64 er]) _ (Or.inl rfl) rfl (lb_ hsz) (wanted_none rfl) (fa0_11.at_ 23) (fun a0_12 fa0_12 => ?_)
  clear fa0_11
  have r_a0_13 : (execOp a0_12.eval { dst := some 24, op := Op.extract (Operand.tmp 15) 0, type := 43, pos := "law.go:112", after := #[{ on := 8, ground := Ground.data }], guard := none }).run Try.prog (W5) = .ok (.value (.slice ow m cw)) (W5) := by
    have e15 := (show a0_12.eval (.tmp 15) = .tuple #[.slice ow m cw, .int .i64 er] from (fa0_12.at_ 15))
    clear fa0_12 ha hn hln hT hm
    generalize a0_12.eval = ρ at *
    go_simp
  refine fa0_12.step 24 (.slice ow m cw) rfl (lb_ hsz) (wanted_none rfl) r_a0_13 (fun a0_13 fa0_13 => ?_)
  clear r_a0_13
  clear fa0_12
  have r_a0_14 : (execOp a0_13.eval { dst := some 25, op := Op.extract (Operand.tmp 15) 1, type := 3, pos := "law.go:112", after := #[{ on := 8, ground := Ground.data }, { on := 11, ground := Ground.gcOnly Go.Departure.lateStores }], guard := none }).run Try.prog (W5) = .ok (.value (.int .i64 er)) (W5) := by
    have e15 := (show a0_13.eval (.tmp 15) = .tuple #[.slice ow m cw, .int .i64 er] from (fa0_13.at_ 15))
    clear fa0_13 ha hn hln hT hm
    generalize a0_13.eval = ρ at *
    go_simp
  refine fa0_13.step 25 (.int .i64 er) rfl (lb_ hsz) (wanted_none rfl) r_a0_14 (fun a0_14 fa0_14 => ?_)
  clear r_a0_14
  clear fa0_13
  refine fa0_14.move 5 (.slice ow m cw) _ (Or.inr rfl) rfl (lb_ hsz) (wanted_none rfl) (fa0_14.at_ 24) (fun a0_15 fa0_15 => ?_)
  clear fa0_14
  refine fa0_15.move 6 (.int .i64 er) _ (Or.inr rfl) rfl (lb_ hsz) (wanted_none rfl) (fa0_15.at_ 25) (fun a0_16 fa0_16 => ?_)
  clear fa0_15
  refine wpList_nil ?_
  change Code.wp _ _ _ _ _
  refine wp_seq ?_
  refine wp_region_list ?_
  unfold rFL2
  have r_a0_17 : (execOp a0_16.eval { dst := some 26, op := Op.fieldAddr 42 (Operand.tmp 3) 1, type := 0, pos := "law.go:113", after := #[], guard := none }).run Try.prog (W5) = .ok (.value (.pointer (some ⟨w.heap.size + 1, 1, none⟩))) (W5) := by
    have e3 := (show a0_16.eval (.tmp 3) = .pointer (some ⟨w.heap.size + 1, 0, none⟩) from (fa0_16.at_ 3))
    clear fa0_16 ha hn hln hT hm
    generalize a0_16.eval = ρ at *
    go_simp
  refine fa0_16.step 26 (.pointer (some ⟨w.heap.size + 1, 1, none⟩)) rfl (lb_ hsz) (wanted_none rfl) r_a0_17 (fun a0_17 fa0_17 => ?_)
  clear r_a0_17
  clear fa0_16
  have r_a0_18 : (execOp a0_17.eval { dst := some 27, op := Op.load 22 (Operand.tmp 26), type := 22, pos := "law.go:113", after := #[{ on := 0, ground := Ground.data }], guard := none }).run Try.prog (W5) = .ok (.value (.slice pa n cp)) (W5) := by
    have e26 := (show a0_17.eval (.tmp 26) = .pointer (some ⟨w.heap.size + 1, 1, none⟩) from (fa0_17.at_ 26))
    clear fa0_17 ha hn hln hT hm
    generalize a0_17.eval = ρ at *
    go_simp
  refine fa0_17.step 27 (.slice pa n cp) rfl (lb_ hsz) (wanted_none rfl) r_a0_18 (fun a0_18 fa0_18 => ?_)
  clear r_a0_18
  clear fa0_17
  have r_a0_19 : (execOp a0_18.eval { dst := some 28, op := Op.call { callee := Callee.value (Operand.func 6), args := #[Operand.tmp 27], argTypes := #[22] }, type := 22, pos := "law.go:113", after := #[{ on := 1, ground := Ground.data }], guard := none }).run Try.prog (W5) = .ok (.enter 6 #[.slice pa n cp]) (W5) := by
    have kf : ∀ f, a0_18.eval (.func f) = .func (.func f) #[] #[] := fun _ => rfl
    have e27 := (show a0_18.eval (.tmp 27) = .slice pa n cp from (fa0_18.at_ 27))
    clear fa0_18 ha hn hln hT hm
    generalize a0_18.eval = ρ at *
    go_simp
  refine fa0_18.call 28 rfl (lb_ hsz) (wanted_none rfl) r_a0_19 (lentC_calls W5 (hM.same (sV.trans s5)) hn (by omega)) (fun e W7 hR => ?_)
  obtain ⟨g, cg, M1, rfl, l7, s7⟩ := hR
  clear r_a0_19
  refine ⟨_, rfl, fun a0_19 fa0_19 => ?_⟩
  clear fa0_18
  refine fa0_19.move 7 (.slice (some ⟨g, 0, none⟩) n cg) _ (Or.inr rfl) rfl (lb_ hsz) (wanted_none rfl) (fa0_19.at_ 28) (fun a0_20 fa0_20 => ?_)
  clear fa0_19
  refine wpList_nil ?_
  have s57 : Same V W7 := s5.trans s7
  change Code.wp _ _ _ _ _
  refine wp_seq ?_
  refine fl3 (ML := ML) (by intro c a d v w h; cases d <;> exact h) a0_20 W7 (fa0_20.size.trans hsz) (show a0_20.eval (.tmp 3) = .pointer (some ⟨w.heap.size + 1, 0, none⟩) from (fa0_20.at_ 3)) (s57.keep c2) (s57.keep c3) (s57.keep c4) (s57.keep c5) (fun Z s => ?_) (fun Z s => ?_) (fun b W bx gt ct gl cl ML2 env fe kp h8 rb l8 s8 => ?_)
  · have := lentN_calls Z (hTn.same ((sV.trans s57).trans s)) (by omega)
    rw [← hT] at this
    exact this.mono fun e w' ⟨x, y, h1, _, h3⟩ => ⟨x, y, h1, h3⟩
  · refine (lentC_calls Z (hML.same ((sV.trans s57).trans s)) hln (by omega)).mono fun e w' ⟨x, y, z, h1, h2, h3⟩ => ⟨x, y, z, h1, h2.lower s.size, h3⟩
  change Code.wp _ _ _ _ _
  have sVW : Same V W := s57.trans s8
  have l7w := l7.same s8
  obtain ⟨gw, pw⟩ := own_pgRow (l := L) (c := cw) (ao := ow) (hm ▸ o5)
  have hk1 := l7.len hn
  have hk2 := l8.len hln
  have bM1 : ∀ Z, Same W Z → BvRow Z (some ⟨g, 0, none⟩) g 0 M1 := fun Z s => (l7w.same s).bv (hM.same ((sV.trans sVW).trans s)).row
  have bM2 : ∀ Z, Same W Z → BvRow Z (some ⟨gl, 0, none⟩) gl 0 ML2 := fun Z s => (l8.same s).bv (hML.same ((sV.trans sVW).trans s)).row
  have hcap := own_capF l7.row
  have kY : ∀ Z, Same W Z → Calls Try.prog 16 #[.agg #[.int .i64 p, .int .i64 q], .int .u64 (vr : Int), .slice (some ⟨g, 0, none⟩) n cg, .agg #[.slice (some ⟨gt, 0, none⟩) tn ct, .slice (some ⟨gl, 0, none⟩) ln cl, .int .i64 op, .int .u32 (pgs : Int)]] Z fun e w' => LayM vr m L er Z e w' := fun Z s => by
    have := flay_all (p := p) (q := q) (op := op) (vr := vr) (n := n) (c := cg) (lc := cl) (pgs := pgs) (tr := .slice (some ⟨gt, 0, none⟩) tn ct) Z (bM1 Z s) (bM2 Z s) hk1.symm (by omega) (by rw [wt_key _ _ l7.key, wt_key _ _ l8.key]; exact hwt)
    obtain ⟨e1, e2⟩ := layL_key (p := p) (q := q) (op := op) (vr := vr) (n := n) (pgs := pgs) l7.key l8.key
    rw [e1, e2, hk2, ← hL, ← hE] at this
    exact this.mono fun e w' h => layM_of hm h
  refine flB (l := L) (m := m) (er := er) (vr := vr) (gw := gw) b W (fe.size.trans (fa0_20.size.trans hsz)) (fe.defers.trans (fa0_20.defers.trans hd)) (((fe.at_ 2).trans (kp 2 (by simp))).trans (show a0_20.eval (.tmp 2) = .pointer (some ⟨w.heap.size, 0, none⟩) from (fa0_20.at_ 2))) (((fe.at_ 3).trans (kp 3 (by simp))).trans (show a0_20.eval (.tmp 3) = .pointer (some ⟨w.heap.size + 1, 0, none⟩) from (fa0_20.at_ 3))) (((fe.at_ 5).trans (kp 5 (by simp))).trans (show a0_20.eval (.tmp 5) = .slice ow m cw from (fa0_20.at_ 5))) (((fe.at_ 6).trans (kp 6 (by simp))).trans (show a0_20.eval (.tmp 6) = .int .i64 er from (fa0_20.at_ 6))) (((fe.at_ 7).trans (kp 7 (by simp))).trans (show a0_20.eval (.tmp 7) = .slice (some ⟨g, 0, none⟩) n cg from (fa0_20.at_ 7))) h8 (sVW.keep d0) (sVW.keep d1) (sVW.keep c0) (sVW.keep c1) (sVW.keep c3) ((cell_of_row _ _ _ _ _ _ rb).trans rfl) ((cell_of_row _ _ _ _ _ _ rb).trans rfl) ((cell_of_row _ _ _ _ _ _ rb).trans rfl) ((cell_of_row _ _ _ _ _ _ rb).trans rfl) (pw.same (s7.trans s8)) hm hm4 kY (fun Z s => ?_) (fun Z s => ?_) awake9_calls (fun a' W' hd' h4 s => ?_)
  · exact keptC_true Z (hM.same ((sV.trans sVW).trans s)).row (l7w.same s) hn (by omega)
  · exact keptC_true Z (hML.same ((sV.trans sVW).trans s)).row (l8.same s) hln (by omega)
  · exact ret_abs rfl hd' h4 ⟨rfl, (sV.trans sVW).trans s⟩
end Go.Proofs.Ytneopkhkkfckcaa
