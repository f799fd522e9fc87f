/- DiskSafe: fates of 255 for all that waits. -/
import Derived.Test.YtjiaepeglghheaaPM
namespace Go.Proofs.Ytjiaepeglghheaa
open Go.RowKit

theorem Try.infFt : (Try.prog.info? 38).map (fun i => (i.zero, i.size, i.bytes)) = some (some (.int .u8 0), 1, 1) := by kernel_rfl
theorem appFts {v : Value} {n m c : Nat} {ad : Addr} {xs news : List Value} (w : World) (ty : TypeId) (ho : w.ownsRow 0 38 1 v n xs) (hl : news.length = m * 1) (hnews : ∀ j u, news[j]? = some u → w.cell? (ad.add j) = some u) (h1 : ∀ u ∈ news, u.oneCell' = true) (hm : 0 < m) (hb : n + m ≤ 2097152) :
    ∃ g cap w', (Builtin.append_ #[33, 33] ty #[v, .slice (some ad) m c]).run Try.prog w = .ok (.slice (some ⟨g, 0, none⟩) (n + m) cap) w' ∧
      w'.ownsRow 0 38 1 (.slice (some ⟨g, 0, none⟩) (n + m) cap) (n + m) (xs ++ news) ∧ Fr (fun k => v.ownBlock = some k) w w' ∧ (v.ownBlock = some g ∨ g = w.heap.size) := by
  obtain ⟨i0, hi, hz0, hz1, hz2⟩ := info_parts Try.infFt
  obtain ⟨g, cap, w', h1, h2, h3, h4, _⟩ := run_append_lies (P := Try.prog) w 33 ty 0 38 i0 _ 1 1 Try.underlying33 hi hz0 hz1 hz2 rfl (by decide) v n xs ho ad m c news hl hnews h1 hm (by unfold maxLen; omega) (by omega) (Nat.zero_le _) w.heap.size rfl
  exact ⟨g, cap, w', h1, h2, Fr.grown (Fr.refl _ w) h3 (fun k e _ => e), h4⟩
structure IPN (v1 v5 v7 v8 v13 v14 v16 v19 : Value) (a : Act) : Prop where
  size : a.tmps.size = 274
  defers : a.defers = []
  s1 : a.eval (.tmp 1) = v1
  s5 : a.eval (.tmp 5) = v5
  s7 : a.eval (.tmp 7) = v7
  s8 : a.eval (.tmp 8) = v8
  s13 : a.eval (.tmp 13) = v13
  s14 : a.eval (.tmp 14) = v14
  s16 : a.eval (.tmp 16) = v16
  s19 : a.eval (.tmp 19) = v19
theorem IPN.keep {v1 v5 v7 v8 v13 v14 v16 v19 : Value} {a0 a : Act} {env : List (Nat × Value)} (h : IPN v1 v5 v7 v8 v13 v14 v16 v19 a0) (f : Fe a0 env a) (h1 : look env 1 (a0.eval (.tmp 1)) = a0.eval (.tmp 1)) (h5 : look env 5 (a0.eval (.tmp 5)) = a0.eval (.tmp 5)) (h7 : look env 7 (a0.eval (.tmp 7)) = a0.eval (.tmp 7)) (h8 : look env 8 (a0.eval (.tmp 8)) = a0.eval (.tmp 8)) (h13 : look env 13 (a0.eval (.tmp 13)) = a0.eval (.tmp 13)) (h14 : look env 14 (a0.eval (.tmp 14)) = a0.eval (.tmp 14)) (h16 : look env 16 (a0.eval (.tmp 16)) = a0.eval (.tmp 16)) (h19 : look env 19 (a0.eval (.tmp 19)) = a0.eval (.tmp 19)) : IPN v1 v5 v7 v8 v13 v14 v16 v19 a :=
  ⟨f.size.trans h.size, f.defers.trans h.defers, ((f.at_ 1).trans h1).trans h.s1, ((f.at_ 5).trans h5).trans h.s5, ((f.at_ 7).trans h7).trans h.s7, ((f.at_ 8).trans h8).trans h.s8, ((f.at_ 13).trans h13).trans h.s13, ((f.at_ 14).trans h14).trans h.s14, ((f.at_ 16).trans h16).trans h.s16, ((f.at_ 19).trans h19).trans h.s19⟩
theorem pnE {n i wc : Nat} {wa : Option Addr} {vo v1 v5 v7 v8 v13 v16 v19 : Value} {Q : Exit → Act → World → Prop} (a0 : Act) (wr : World) (I0 : IPN v1 v5 v7 v8 v13 (.slice wa n wc) v16 v19 a0) (h18 : a0.eval (.tmp 18) = .int .i64 (i : Int)) (h17 : a0.eval (.tmp 17) = vo) (hi : n ≤ i) (hQ : ∀ a, IPN v1 v5 v7 v8 v13 (.slice wa n wc) v16 v19 a → a.eval (.tmp 17) = vo → Q (.exit 2) a wr) : cPL2.wp Try.prog Q a0 wr := by
  have hii : ¬ (i : Int) < (n : Int) := by omega
  have hid : decide ((i : Int) < (n : Int)) = false := decide_eq_false hii
  clear hi
  have fa0_0 := Fe.refl a0
  unfold cPL2
  refine wp_seq (wp_seq ?_)
  refine wp_region_list ?_
  unfold rPL26
  refine fa0_0.move 110 (.int .i64 (i : Int)) _ (Or.inl rfl) rfl (lb_ I0.size) (wanted_none rfl) ((fa0_0.at_ 18).trans h18) (fun a0_1 fa0_1 => ?_)
  clear fa0_0
  refine fa0_1.move 111 (.slice wa n wc) _ (Or.inl rfl) rfl (lb_ I0.size) (wanted_none rfl) ((fa0_1.at_ 14).trans I0.s14) (fun a0_2 fa0_2 => ?_)
  clear fa0_1
  have r_a0_3 : (execOp a0_2.eval { dst := some 112, op := Op.call { callee := Callee.builtin Builtin.len, args := #[Operand.tmp 111], argTypes := #[46] }, type := 3, pos := "outright.go:114", after := #[{ on := 1, ground := Ground.data }], guard := none }).run Try.prog (wr) = .ok (.value (.int .i64 (n : Int))) (wr) := by
    have e111 := (show a0_2.eval (.tmp 111) = .slice wa n wc from (fa0_2.at_ 111))
    clear fa0_2 hQ h18 h17
    generalize a0_2.eval = ρ at *
    go_simp
  refine fa0_2.step 112 (.int .i64 (n : Int)) rfl (lb_ I0.size) (wanted_none rfl) r_a0_3 (fun a0_3 fa0_3 => ?_)
  clear r_a0_3
  clear fa0_2
  have r_a0_4 : (execOp a0_3.eval { dst := some 113, op := Op.binOp BinOp.lss 3 (Operand.tmp 110) (Operand.tmp 112) 3, type := 4, pos := "outright.go:114", after := #[{ on := 0, ground := Ground.data }, { on := 2, ground := Ground.data }], guard := none }).run Try.prog (wr) = .ok (.value (.bool false)) (wr) := by
    have e110 := (show a0_3.eval (.tmp 110) = .int .i64 (i : Int) from (fa0_3.at_ 110))
    have e112 := (show a0_3.eval (.tmp 112) = .int .i64 (n : Int) from (fa0_3.at_ 112))
    clear fa0_3 hQ h18 h17
    generalize a0_3.eval = ρ at *
    go_simp
  refine fa0_3.step 113 (.bool false) rfl (lb_ I0.size) (wanted_none rfl) r_a0_4 (fun a0_4 fa0_4 => ?_)
  clear r_a0_4
  clear fa0_3
  refine wpList_nil ?_
  change Code.wp _ _ _ _ _
  refine wp_cond_false (show a0_4.eval (.tmp 113) = .bool false from (fa0_4.at_ 113)) (wp_exit ?_)
  exact hQ a0_4 (I0.keep fa0_4 rfl rfl rfl rfl rfl rfl rfl rfl) (show a0_4.eval (.tmp 17) = vo from ((fa0_4.at_ 17).trans h17))
set_option maxRecDepth 100000 in
set_option maxHeartbeats 1000000 in
theorem pnR {n i wc cc : Nat} {wa ao : Option Addr} {v1 v5 v7 v8 v13 v16 v19 : Value} {Q : Exit → Act → World → Prop} (a0 : Act) (wr : World) (I0 : IPN v1 v5 v7 v8 v13 (.slice wa n wc) v16 v19 a0) (h18 : a0.eval (.tmp 18) = .int .i64 (i : Int)) (h17 : a0.eval (.tmp 17) = .slice ao i cc) (hi : i < n) (hn : n ≤ 1048576) (ho : wr.ownsRow 0 38 1 (.slice ao i cc) i (List.replicate i (Value.int .u8 255)))
    (hQ : ∀ a W g c, IPN v1 v5 v7 v8 v13 (.slice wa n wc) v16 v19 a → a.eval (.tmp 18) = .int .i64 ((i : Int) + 1) → a.eval (.tmp 17) = .slice (some ⟨g, 0, none⟩) (i + 1) c → W.ownsRow 0 38 1 (.slice (some ⟨g, 0, none⟩) (i + 1) c) (i + 1) (List.replicate (i + 1) (Value.int .u8 255)) → Fr (fun k => (Value.slice ao i cc).ownBlock = some k) wr W → ((Value.slice ao i cc).ownBlock = some g ∨ wr.heap.size ≤ g) → Q .normal a W) : cPL2.wp Try.prog Q a0 wr := by
  have hii : (i : Int) < (n : Int) := by omega
  have w1 : IntKind.i64.wrap ((i : Int) + 1) = (i : Int) + 1 := by rw [IntKind.wrap_i64]; omega
  have fa0_0 := Fe.refl a0
  unfold cPL2
  refine wp_seq (wp_seq ?_)
  refine wp_region_list ?_
  unfold rPL26
  refine fa0_0.move 110 (.int .i64 (i : Int)) _ (Or.inl rfl) rfl (lb_ I0.size) (wanted_none rfl) ((fa0_0.at_ 18).trans h18) (fun a0_1 fa0_1 => ?_)
  clear fa0_0
  refine fa0_1.move 111 (.slice wa n wc) _ (Or.inl rfl) rfl (lb_ I0.size) (wanted_none rfl) ((fa0_1.at_ 14).trans I0.s14) (fun a0_2 fa0_2 => ?_)
  clear fa0_1
  have r_a0_3 : (execOp a0_2.eval { dst := some 112, op := Op.call { callee := Callee.builtin Builtin.len, args := #[Operand.tmp 111], argTypes := #[46] }, type := 3, pos := "outright.go:114", after := #[{ on := 1, ground := Ground.data }], guard := none }).run Try.prog (wr) = .ok (.value (.int .i64 (n : Int))) (wr) := by
    have e111 := (show a0_2.eval (.tmp 111) = .slice wa n wc from (fa0_2.at_ 111))
    clear fa0_2 hQ h18 h17 ho
    generalize a0_2.eval = ρ at *
    go_simp
  refine fa0_2.step 112 (.int .i64 (n : Int)) rfl (lb_ I0.size) (wanted_none rfl) r_a0_3 (fun a0_3 fa0_3 => ?_)
  clear r_a0_3
  clear fa0_2
  have r_a0_4 : (execOp a0_3.eval { dst := some 113, op := Op.binOp BinOp.lss 3 (Operand.tmp 110) (Operand.tmp 112) 3, type := 4, pos := "outright.go:114", after := #[{ on := 0, ground := Ground.data }, { on := 2, ground := Ground.data }], guard := none }).run Try.prog (wr) = .ok (.value (.bool true)) (wr) := by
    have e110 := (show a0_3.eval (.tmp 110) = .int .i64 (i : Int) from (fa0_3.at_ 110))
    have e112 := (show a0_3.eval (.tmp 112) = .int .i64 (n : Int) from (fa0_3.at_ 112))
    clear fa0_3 hQ h18 h17 ho
    generalize a0_3.eval = ρ at *
    go_simp
  refine fa0_3.step 113 (.bool true) rfl (lb_ I0.size) (wanted_none rfl) r_a0_4 (fun a0_4 fa0_4 => ?_)
  clear r_a0_4
  clear fa0_3
  refine wpList_nil ?_
  change Code.wp _ _ _ _ _
  refine wp_cond_true (show a0_4.eval (.tmp 113) = .bool true from (fa0_4.at_ 113)) (wp_skip ?_)
  change Code.wp _ _ _ _ _
  refine wp_seq (wp_block ?_)
  refine wp_region_list ?_
  unfold rPL28
  refine fa0_4.move 116 (.slice ao i cc) _ (Or.inl rfl) rfl (lb_ I0.size) (wanted_none rfl) ((fa0_4.at_ 17).trans h17) (fun a0_5 fa0_5 => ?_)
  clear fa0_4
  have r_a0_6 : (execOp a0_5.eval { dst := some 117, op := Op.buildSlice 33 1 #[(0, Operand.const (Value.int IntKind.u8 255))], type := 33, pos := "outright.go:115", after := #[], guard := none }).run Try.prog (wr) = .ok (.value (.slice (some ⟨wr.heap.size, 0, none⟩) 1 1)) (World.alloc wr (.cells #[.int .u8 255] 38)) := by
    have kc : ∀ v, a0_5.eval (.const v) = v := fun _ => rfl
    clear fa0_5 hQ h18 h17 ho
    generalize a0_5.eval = ρ at *
    go_simp
  refine fa0_5.stepW 117 (.slice (some ⟨wr.heap.size, 0, none⟩) 1 1) rfl (lb_ I0.size) (wanted_none rfl) r_a0_6 (fun a0_6 fa0_6 => ?_)
  clear r_a0_6
  have s2 : Same wr (World.alloc wr (.cells #[.int .u8 255] 38)) := (Fr.refl _ wr).alloc _
  have r2 : (World.alloc wr (.cells #[.int .u8 255] 38)).heap[wr.heap.size]? = some (.cells #[.int .u8 255] 38 (0, 0)) := heap_alloc_new wr _
  generalize World.alloc wr (.cells #[.int .u8 255] 38) = V at *
  obtain ⟨g3, c3, V3, hr3, o3, f3, l3⟩ := appFts (m := 1) (c := 1) (ad := ⟨wr.heap.size, 0, none⟩) (news := [.int .u8 255]) V 33 (own_frameB ho s2 (fun _ _ f => f)) rfl (fun j u hj => by rw [WideShapes.add_plain, Nat.zero_add]; exact (cell_of_row _ _ _ _ _ _ r2).trans (by rw [← hj, ← List.getElem?_toArray])) (fun u hu => by rw [List.mem_singleton] at hu; rw [hu]; rfl) (by decide) (by omega)
  clear fa0_5
  have r_a0_7 : (execOp a0_6.eval { dst := some 118, op := Op.call { callee := Callee.builtin Builtin.append, args := #[Operand.tmp 116, Operand.tmp 117], argTypes := #[33, 33] }, type := 33, pos := "outright.go:115", after := #[{ on := 0, ground := Ground.data }, { on := 1, ground := Ground.data }], guard := none }).run Try.prog (V) = .ok (.value (.slice (some ⟨g3, 0, none⟩) (i + 1) c3)) (V3) := by
    refine exec_append rfl ?_
    rw [(show a0_6.eval (.tmp 116) = .slice ao i cc from (fa0_6.at_ 116)), (show a0_6.eval (.tmp 117) = .slice (some ⟨wr.heap.size, 0, none⟩) 1 1 from (fa0_6.at_ 117))]
    exact hr3
  refine fa0_6.stepW 118 (.slice (some ⟨g3, 0, none⟩) (i + 1) c3) rfl (lb_ I0.size) (wanted_none rfl) r_a0_7 (fun a0_7 fa0_7 => ?_)
  clear r_a0_7
  clear fa0_6
  refine fa0_7.move 17 (.slice (some ⟨g3, 0, none⟩) (i + 1) c3) _ (Or.inr rfl) rfl (lb_ I0.size) (wanted_none rfl) (fa0_7.at_ 118) (fun a0_8 fa0_8 => ?_)
  clear fa0_7
  refine wpList_nil ?_
  change Code.wp _ _ _ _ _
  refine wp_region_list ?_
  unfold rPL27
  refine fa0_8.move 114 (.int .i64 (i : Int)) _ (Or.inl rfl) rfl (lb_ I0.size) (wanted_none rfl) ((fa0_8.at_ 18).trans h18) (fun a0_9 fa0_9 => ?_)
  clear fa0_8
  have r_a0_10 : (execOp a0_9.eval { dst := some 115, op := Op.binOp BinOp.add 3 (Operand.tmp 114) (Operand.const (Value.int IntKind.i64 1)) 3, type := 3, pos := "outright.go:114", after := #[{ on := 0, ground := Ground.data }], guard := none }).run Try.prog (V3) = .ok (.value (.int .i64 ((i : Int) + 1))) (V3) := by
    have kc : ∀ v, a0_9.eval (.const v) = v := fun _ => rfl
    have e114 := (show a0_9.eval (.tmp 114) = .int .i64 (i : Int) from (fa0_9.at_ 114))
    clear fa0_9 hQ h18 h17 ho
    generalize a0_9.eval = ρ at *
    go_simp
  refine fa0_9.step 115 (.int .i64 ((i : Int) + 1)) rfl (lb_ I0.size) (wanted_none rfl) r_a0_10 (fun a0_10 fa0_10 => ?_)
  clear r_a0_10
  clear fa0_9
  refine fa0_10.move 18 (.int .i64 ((i : Int) + 1)) _ (Or.inr rfl) rfl (lb_ I0.size) (wanted_none rfl) (fa0_10.at_ 115) (fun a0_11 fa0_11 => ?_)
  clear fa0_10
  refine wpList_nil ?_
  have f23 : Fr (fun k => (Value.slice ao i cc).ownBlock = some k) wr V3 := Fr.trans (s2.mono (fun _ _ f => f.elim)) f3 (fun _ _ e => e)
  exact hQ a0_11 V3 g3 c3 (I0.keep fa0_11 rfl rfl rfl rfl rfl rfl rfl rfl) (show a0_11.eval (.tmp 18) = .int .i64 ((i : Int) + 1) from (fa0_11.at_ 18)) (show a0_11.eval (.tmp 17) = .slice (some ⟨g3, 0, none⟩) (i + 1) c3 from (fa0_11.at_ 17)) (by rw [List.replicate_succ']; exact o3) f23 (l3.imp id (fun e => by have := s2.size; omega))
theorem pnL {n wc : Nat} {wa : Option Addr} {v1 v5 v7 v8 v13 v16 v19 : Value} {Q : Exit → Act → World → Prop} (a0 : Act) (w : World) (I0 : IPN v1 v5 v7 v8 v13 (.slice wa n wc) v16 v19 a0) (h18 : a0.eval (.tmp 18) = .int .i64 ((0 : Nat) : Int)) (h17 : a0.eval (.tmp 17) = .slice none 0 0) (hn : n ≤ 1048576)
    (hQ : ∀ a W ao cc, IPN v1 v5 v7 v8 v13 (.slice wa n wc) v16 v19 a → a.eval (.tmp 17) = .slice ao n cc → W.ownsRow w.heap.size 38 1 (.slice ao n cc) n (List.replicate n (Value.int .u8 255)) → Same w W → Q (.exit 2) a W) : (Code.loop cPL2).wp Try.prog Q a0 w := by
  refine wp_loop (fun a W => IPN v1 v5 v7 v8 v13 (.slice wa n wc) v16 v19 a ∧ ∃ (i : Nat) (ao : Option Addr) (cc : Nat), i ≤ n ∧ a.eval (.tmp 18) = .int .i64 (i : Int) ∧ a.eval (.tmp 17) = .slice ao i cc ∧ W.ownsRow w.heap.size 38 1 (.slice ao i cc) i (List.replicate i (Value.int .u8 255)) ∧ Same w W) (fun a _ => n - kOf a 18) ⟨I0, 0, none, 0, Nat.zero_le _, h18, h17, own_nil, Fr.refl _ _⟩ ?_
  rintro a W ⟨I1, i, ao, cc, hi, g5, g3, ho, s1⟩
  by_cases hgo : i < n
  · refine pnR (Q := Exit.then _ Q) a W I1 g5 g3 hgo hn (own_base ho (Nat.zero_le _)) (fun a' W3 g c i3 h1 h2 o3 f3 l3 => ?_)
    have blk : ∀ k, (Value.slice ao i cc).ownBlock = some k → w.heap.size ≤ k := fun k hk => by
      cases ao with
      | none => cases hk
      | some z => have := (own_ge ho).1; simp [Value.ownBlock] at hk; omega
    have s3 : Same w W3 := Fr.trans s1 f3 (fun k hk e => by have := blk k e; omega)
    have h4 : a'.eval (.tmp 18) = .int .i64 ((i + 1 : Nat) : Int) := h1
    have hge : w.heap.size ≤ g := by
      rcases l3 with e | e
      · exact blk g e
      · exact Nat.le_trans s1.size e
    refine ⟨⟨i3, i + 1, some ⟨g, 0, none⟩, c, hgo, h4, h2, own_rebase o3 hge, s3⟩, ?_⟩
    show n - kOf a' 18 < n - kOf a 18
    rw [kOf_eq h4, kOf_eq g5]
    omega
  · obtain rfl : n = i := by omega
    exact pnE a W I1 g5 g3 (Nat.le_refl _) (fun a' i2 h2 => hQ a' W ao cc i2 h2 ho s1)
theorem ft_full {W : World} {B n c : Nat} {ao : Option Addr} (h : W.ownsRow B 38 1 (.slice ao n c) n (List.replicate n (Value.int .u8 255))) : FtRow W ao (List.replicate n 255) := by
  have h0 := own_base h (Nat.zero_le B)
  refine ⟨fun hne => ?_, fun g o e j x hx => ?_⟩
  · have : n ≠ 0 := fun e => hne (by rw [e]; rfl)
    obtain ⟨g, rfl, _⟩ := own_some h0 this
    exact ⟨g, 0, rfl⟩
  · rw [List.getElem?_replicate] at hx
    by_cases hj : j < n
    · rw [if_pos hj] at hx
      cases hx
      obtain ⟨g2, e2, _⟩ := own_some h0 (by omega)
      rw [e2] at e h0
      cases e
      rw [Nat.zero_add]
      exact own_cell h0 (by rw [List.getElem?_replicate, if_pos hj]; rfl)
    · rw [if_neg hj] at hx; cases hx
end Go.Proofs.Ytjiaepeglghheaa
