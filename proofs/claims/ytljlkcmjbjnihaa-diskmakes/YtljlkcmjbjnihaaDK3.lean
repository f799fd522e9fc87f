/- The document's From whole; Size, Same; tells. -/
import Derived.Test.YtljlkcmjbjnihaaDK2
namespace Go.Proofs.Ytljlkcmjbjnihaa
open Go.RowKit

theorem any_take {pg : Int} {L : List ByteArray} {i : Nat} (h : ∀ x ∈ L.take i, sizeNo pg x = false) (hi : L.length ≤ i) : L.any (sizeNo pg) = false := by
  rw [List.take_of_length_le hi] at h
  rw [List.any_eq_false]
  intro x hx
  rw [h x hx]
  decide
theorem sizeNo_true {pg : Int} {x : ByteArray} (h : ¬ (x.size : Int) = pg) : sizeNo pg x = true := by unfold sizeNo; rw [decide_eq_false h]; rfl
theorem sizeNo_false {pg : Int} {x : ByteArray} (h : (x.size : Int) = pg) : sizeNo pg x = false := by unfold sizeNo; rw [decide_eq_true h]; rfl
theorem dkL {ic g pb po : Nat} {pg mo : Int} {ia : Option Addr} {L : List ByteArray} {w : World} {Q : Exit → Act → World → Prop} (hQp : ∀ c (a : Act) d v w, Q (.panic c) (a.put d v) w → Q (.panic c) a w) (a0 : Act) (W1 : World) (I0 : IDK (.int .i64 pg) (.slice ia L.length ic) (.pointer (some ⟨g, 0, none⟩)) a0) (h9 : a0.eval (.tmp 9) = .int .i64 ((0 : Nat) : Int)) (hl : L.length ≤ 1048576) (hT : TRow w ia pb po L) (s1 : Same w W1) (hg : w.heap.size ≤ g) (hr : W1.heap[g]? = some (.cells (rdC pg mo (.slice none 0 0)).toArray 42 (0, 0)))
    (hQb : L.any (sizeNo pg) = true → ∀ (a : Act) W, a.defers = [] → a.eval (.tmp 6) = .pointer none → a.eval (.tmp 7) = .int .i64 42 → Same w W → Q .ret a W)
    (hQ : L.any (sizeNo pg) = false → ∀ a W da dc, IDK (.int .i64 pg) (.slice ia L.length ic) (.pointer (some ⟨g, 0, none⟩)) a → W.heap[g]? = some (.cells (rdC pg mo (.slice da L.length dc)).toArray 42 (0, 0)) → W.ownsRow 0 9 1 (.slice da L.length dc) L.length (scells L) → Same w W → Q (.exit 0) a W) : (Code.loop cDK1).wp Try.prog Q a0 W1 := by
  refine wp_loop (fun a W => IDK (.int .i64 pg) (.slice ia L.length ic) (.pointer (some ⟨g, 0, none⟩)) a ∧ ∃ (i : Nat) (da : Option Addr) (dc : Nat), i ≤ L.length ∧ a.eval (.tmp 9) = .int .i64 (i : Int) ∧ W.heap[g]? = some (.cells (rdC pg mo (.slice da i dc)).toArray 42 (0, 0)) ∧ W.ownsRow 0 9 1 (.slice da i dc) i (scells (L.take i)) ∧ (∀ k, (Value.slice da i dc).ownBlock = some k → w.heap.size ≤ k) ∧ (∀ x ∈ L.take i, sizeNo pg x = false) ∧ Same w W) (fun a _ => L.length - kOf a 9) ⟨I0, 0, none, 0, Nat.zero_le _, h9, hr, own_nil, fun k hk => (by cases hk), fun x hx => (by cases hx), s1⟩ ?_
  rintro a W ⟨I1, i, da, dc, hi, g9, r1, o1, n1, t1, sW⟩
  by_cases hgo : i < L.length
  · obtain ⟨x, hx⟩ : ∃ x, L[i]? = some x := ⟨_, List.getElem?_eq_getElem hgo⟩
    obtain ⟨rfl, hpb⟩ := hT.place (fun e => by rw [e] at hgo; cases hgo)
    have cx := sW.keep (hT.cells i x hx)
    by_cases hs : (x.size : Int) = pg
    · refine dkG (Q := Exit.then _ Q) (fun c a d v w h => hQp c a d v w h) a W I1 g9 hgo hl cx hs r1 o1 (fun e => by have := n1 _ e; omega) (fun a' W' gr c3 i3 h1 r3 o3 f3 l3 => ?_)
      have h4 : a'.eval (.tmp 9) = .int .i64 ((i + 1 : Nat) : Int) := h1
      have ht : L.take (i + 1) = L.take i ++ [x] := by rw [List.take_add_one, hx]; rfl
      refine ⟨⟨i3, i + 1, some ⟨gr, 0, none⟩, c3, hgo, h4, r3, by rw [ht]; exact o3, fun k hk => ?_, fun y hy => ?_, Fr.trans sW f3 (fun k hl2 e => ?_)⟩, ?_⟩
      · have hk2 : gr = k := by simpa [Value.ownBlock] using hk
        rcases l3 with e | e
        · have := n1 _ e; omega
        · have := sW.size; omega
      · rw [ht] at hy
        rcases List.mem_append.1 hy with h | h
        · exact t1 y h
        · rw [List.mem_singleton] at h; rw [h]; exact sizeNo_false hs
      · rcases e with e | e
        · omega
        · have := n1 _ e; omega
      · show L.length - kOf a' 9 < L.length - kOf a 9
        rw [kOf_eq h4, kOf_eq g9]
        omega
    · exact dkB a W I1 g9 hgo cx hs (fun a' i2 h6 h7 => hQb (List.any_eq_true.2 ⟨x, List.mem_of_getElem? hx, sizeNo_true hs⟩) a' W i2.defers h6 h7 sW)
  · obtain rfl : L.length = i := by omega
    refine dkE a W I1 g9 (Nat.le_refl _) (fun a' i2 => hQ (any_take t1 (Nat.le_refl _)) a' W da dc i2 r1 ?_ sW)
    rw [List.take_length] at o1
    exact o1
set_option maxRecDepth 100000 in
set_option maxHeartbeats 1000000 in
theorem rfrom_page {pg mo : Int} {ia : Option Addr} {ic : Nat} {L : List ByteArray} (w : World) (hpg : ¬ (pg = 1024 ∨ pg = 2048 ∨ pg = 4096 ∨ pg = 8192)) :
    Calls Try.prog 4 #[.int .i64 pg, .int .i64 mo, .slice ia L.length ic] w fun e w' => e = .returned (.tuple #[.pointer none, .int .i64 2]) ∧ Same w w' := by
  refine calls_abs (c := cDK) Try.func4 (by kernel_rfl) 56 rfl (by simp) (fun a0 hsz hd ha => ?_)
  have fa0_0 := Fe.refl a0
  unfold cDK
  refine wp_seq ?_
  refine wp_region_list ?_
  unfold rDK0
  refine fa0_0.move 6 (.pointer none) _ (Or.inr rfl) rfl (lb_ hsz) (wanted_none rfl) rfl (fun a0_1 fa0_1 => ?_)
  clear fa0_0
  refine fa0_1.move 7 (.int .i64 0) _ (Or.inr rfl) rfl (lb_ hsz) (wanted_none rfl) rfl (fun a0_2 fa0_2 => ?_)
  clear fa0_1
  refine wpList_nil ?_
  change Code.wp _ _ _ _ _
  refine wp_seq (wp_seq ?_)
  refine wp_region_list ?_
  unfold rDK1
  refine fa0_2.move 10 (.int .i64 pg) _ (Or.inl rfl) rfl (lb_ hsz) (wanted_none rfl) ((fa0_2.at_ 0).trans (ha 0 _ rfl)) (fun a0_3 fa0_3 => ?_)
  clear fa0_2
  have r_a0_4 : (execOp a0_3.eval { dst := some 11, op := Op.call { callee := Callee.value (Operand.func 11), args := #[Operand.tmp 10], argTypes := #[3] }, type := 4, pos := "ref.go:52", after := #[{ on := 0, ground := Ground.data }], guard := none }).run Try.prog (w) = .ok (.enter 11 #[.int .i64 pg]) (w) := by
    have kf : ∀ f, a0_3.eval (.func f) = .func (.func f) #[] #[] := fun _ => rfl
    have e10 := (show a0_3.eval (.tmp 10) = .int .i64 pg from (fa0_3.at_ 10))
    clear fa0_3 ha hpg
    generalize a0_3.eval = ρ at *
    go_simp
  refine fa0_3.call 11 rfl (lb_ hsz) (wanted_none rfl) r_a0_4 (paged_no w hpg) (fun e w1 hR => ?_)
  obtain ⟨rfl, hw1⟩ := hR
  clear r_a0_4
  have hw1 := hw1.symm
  subst hw1
  refine ⟨_, rfl, fun a0_4 fa0_4 => ?_⟩
  clear fa0_3
  have r_a0_5 : (execOp a0_4.eval { dst := some 12, op := Op.unOp UnOp.not 4 (Operand.tmp 11), type := 4, pos := "ref.go:52", after := #[{ on := 1, ground := Ground.data }], guard := none }).run Try.prog (w) = .ok (.value (.bool true)) (w) := by
    have e11 := (show a0_4.eval (.tmp 11) = .bool false from (fa0_4.at_ 11))
    clear fa0_4 ha hpg
    generalize a0_4.eval = ρ at *
    go_simp
  refine fa0_4.step 12 (.bool true) rfl (lb_ hsz) (wanted_none rfl) r_a0_5 (fun a0_5 fa0_5 => ?_)
  clear r_a0_5
  clear fa0_4
  refine fa0_5.move 13 (.bool true) _ (Or.inl rfl) rfl (lb_ hsz) (wanted_none rfl) (fa0_5.at_ 12) (fun a0_6 fa0_6 => ?_)
  clear fa0_5
  refine fa0_6.skip 14 rfl (lb_ hsz) ((wanted_at (t := 13) (c := true) (b := false) rfl rfl rfl (lb_ (fa0_6.size.trans hsz)) (fa0_6.at_ 13)).trans (by rfl)) (fun a0_7 fa0_7 => ?_)
  clear fa0_6
  refine fa0_7.skip 15 rfl (lb_ hsz) ((wanted_at (t := 13) (c := true) (b := false) rfl rfl rfl (lb_ (fa0_7.size.trans hsz)) (fa0_7.at_ 13)).trans (by rfl)) (fun a0_8 fa0_8 => ?_)
  clear fa0_7
  have r_a0_9 : (execOp a0_8.eval { dst := some 16, op := Op.pick (Operand.tmp 13) (Operand.const (Value.bool true)) (Operand.tmp 15), type := 4, pos := "ref.go:52", after := #[{ on := 3, ground := Ground.data }, { on := 5, ground := Ground.data }], guard := none }).run Try.prog (w) = .ok (.value (.bool true)) (w) := by
    have kc : ∀ v, a0_8.eval (.const v) = v := fun _ => rfl
    have e13 := (show a0_8.eval (.tmp 13) = .bool true from (fa0_8.at_ 13))
    have e15 := (show a0_8.eval (.tmp 15) = undef from (fa0_8.at_ 15))
    clear fa0_8 ha hpg
    generalize a0_8.eval = ρ at *
    go_simp
  refine fa0_8.step 16 (.bool true) rfl (lb_ hsz) (wanted_none rfl) r_a0_9 (fun a0_9 fa0_9 => ?_)
  clear r_a0_9
  clear fa0_8
  refine fa0_9.move 17 (.bool true) _ (Or.inl rfl) rfl (lb_ hsz) (wanted_none rfl) (fa0_9.at_ 16) (fun a0_10 fa0_10 => ?_)
  clear fa0_9
  refine fa0_10.skip 18 rfl (lb_ hsz) ((wanted_at (t := 17) (c := true) (b := false) rfl rfl rfl (lb_ (fa0_10.size.trans hsz)) (fa0_10.at_ 17)).trans (by rfl)) (fun a0_11 fa0_11 => ?_)
  clear fa0_10
  refine fa0_11.skip 19 rfl (lb_ hsz) ((wanted_at (t := 17) (c := true) (b := false) rfl rfl rfl (lb_ (fa0_11.size.trans hsz)) (fa0_11.at_ 17)).trans (by rfl)) (fun a0_12 fa0_12 => ?_)
  clear fa0_11
  have r_a0_13 : (execOp a0_12.eval { dst := some 20, op := Op.pick (Operand.tmp 17) (Operand.const (Value.bool true)) (Operand.tmp 19), type := 4, pos := "ref.go:52", after := #[{ on := 7, ground := Ground.data }, { on := 9, ground := Ground.data }], guard := none }).run Try.prog (w) = .ok (.value (.bool true)) (w) := by
    have kc : ∀ v, a0_12.eval (.const v) = v := fun _ => rfl
    have e17 := (show a0_12.eval (.tmp 17) = .bool true from (fa0_12.at_ 17))
    have e19 := (show a0_12.eval (.tmp 19) = undef from (fa0_12.at_ 19))
    clear fa0_12 ha hpg
    generalize a0_12.eval = ρ at *
    go_simp
  refine fa0_12.step 20 (.bool true) rfl (lb_ hsz) (wanted_none rfl) r_a0_13 (fun a0_13 fa0_13 => ?_)
  clear r_a0_13
  clear fa0_12
  refine wpList_nil ?_
  change Code.wp _ _ _ _ _
  refine wp_cond_true (show a0_13.eval (.tmp 20) = .bool true from (fa0_13.at_ 20)) ?_
  change Code.wp _ _ _ _ _
  refine wp_seq ?_
  refine wp_region_list ?_
  unfold rDK2
  refine fa0_13.move 6 (.pointer none) _ (Or.inr rfl) rfl (lb_ hsz) (wanted_none rfl) rfl (fun a0_14 fa0_14 => ?_)
  clear fa0_13
  refine fa0_14.move 7 (.int .i64 2) _ (Or.inr rfl) rfl (lb_ hsz) (wanted_none rfl) rfl (fun a0_15 fa0_15 => ?_)
  clear fa0_14
  refine wpList_nil ?_
  change Code.wp _ _ _ _ _
  refine wp_ret ?_
  simp only [Exit.then]
  refine bodyPost_ret (results_tmp2 rfl _ _ _) (fa0_15.defers.trans hd) ?_
  refine ⟨congrArg Ending.returned ?_, Fr.refl _ _⟩
  show Value.tuple #[a0_15.eval (.tmp 6), a0_15.eval (.tmp 7)] = _
  rw [(show a0_15.eval (.tmp 6) = .pointer none from (fa0_15.at_ 6)), (show a0_15.eval (.tmp 7) = .int .i64 2 from (fa0_15.at_ 7))]
set_option maxRecDepth 100000 in
set_option maxHeartbeats 1000000 in
theorem rfrom_least {pg mo : Int} {ia : Option Addr} {ic : Nat} {L : List ByteArray} (w : World) (hpg : pg = 1024 ∨ pg = 2048 ∨ pg = 4096 ∨ pg = 8192) (m1 : mo < 1) :
    Calls Try.prog 4 #[.int .i64 pg, .int .i64 mo, .slice ia L.length ic] w fun e w' => e = .returned (.tuple #[.pointer none, .int .i64 2]) ∧ Same w w' := by
  refine calls_abs (c := cDK) Try.func4 (by kernel_rfl) 56 rfl (by simp) (fun a0 hsz hd ha => ?_)
  have fa0_0 := Fe.refl a0
  unfold cDK
  refine wp_seq ?_
  refine wp_region_list ?_
  unfold rDK0
  refine fa0_0.move 6 (.pointer none) _ (Or.inr rfl) rfl (lb_ hsz) (wanted_none rfl) rfl (fun a0_1 fa0_1 => ?_)
  clear fa0_0
  refine fa0_1.move 7 (.int .i64 0) _ (Or.inr rfl) rfl (lb_ hsz) (wanted_none rfl) rfl (fun a0_2 fa0_2 => ?_)
  clear fa0_1
  refine wpList_nil ?_
  change Code.wp _ _ _ _ _
  refine wp_seq (wp_seq ?_)
  refine wp_region_list ?_
  unfold rDK1
  refine fa0_2.move 10 (.int .i64 pg) _ (Or.inl rfl) rfl (lb_ hsz) (wanted_none rfl) ((fa0_2.at_ 0).trans (ha 0 _ rfl)) (fun a0_3 fa0_3 => ?_)
  clear fa0_2
  have r_a0_4 : (execOp a0_3.eval { dst := some 11, op := Op.call { callee := Callee.value (Operand.func 11), args := #[Operand.tmp 10], argTypes := #[3] }, type := 4, pos := "ref.go:52", after := #[{ on := 0, ground := Ground.data }], guard := none }).run Try.prog (w) = .ok (.enter 11 #[.int .i64 pg]) (w) := by
    have kf : ∀ f, a0_3.eval (.func f) = .func (.func f) #[] #[] := fun _ => rfl
    have e10 := (show a0_3.eval (.tmp 10) = .int .i64 pg from (fa0_3.at_ 10))
    clear fa0_3 ha hpg
    generalize a0_3.eval = ρ at *
    go_simp
  refine fa0_3.call 11 rfl (lb_ hsz) (wanted_none rfl) r_a0_4 (paged_calls w hpg) (fun e w1 hR => ?_)
  obtain ⟨rfl, hw1⟩ := hR
  clear r_a0_4
  have hw1 := hw1.symm
  subst hw1
  refine ⟨_, rfl, fun a0_4 fa0_4 => ?_⟩
  clear fa0_3
  have r_a0_5 : (execOp a0_4.eval { dst := some 12, op := Op.unOp UnOp.not 4 (Operand.tmp 11), type := 4, pos := "ref.go:52", after := #[{ on := 1, ground := Ground.data }], guard := none }).run Try.prog (w) = .ok (.value (.bool false)) (w) := by
    have e11 := (show a0_4.eval (.tmp 11) = .bool true from (fa0_4.at_ 11))
    clear fa0_4 ha hpg
    generalize a0_4.eval = ρ at *
    go_simp
  refine fa0_4.step 12 (.bool false) rfl (lb_ hsz) (wanted_none rfl) r_a0_5 (fun a0_5 fa0_5 => ?_)
  clear r_a0_5
  clear fa0_4
  refine fa0_5.move 13 (.bool false) _ (Or.inl rfl) rfl (lb_ hsz) (wanted_none rfl) (fa0_5.at_ 12) (fun a0_6 fa0_6 => ?_)
  clear fa0_5
  refine fa0_6.move 14 (.int .i64 mo) _ (Or.inl rfl) rfl (lb_ hsz) ((wanted_at (t := 13) (c := false) (b := false) rfl rfl rfl (lb_ (fa0_6.size.trans hsz)) (fa0_6.at_ 13)).trans (by rfl)) ((fa0_6.at_ 1).trans (ha 1 _ rfl)) (fun a0_7 fa0_7 => ?_)
  clear fa0_6
  have r_a0_8 : (execOp a0_7.eval { dst := some 15, op := Op.binOp BinOp.lss 3 (Operand.tmp 14) (Operand.const (Value.int IntKind.i64 1)) 3, type := 4, pos := "ref.go:52", after := #[{ on := 4, ground := Ground.data }, { on := 3, ground := Ground.guard }], guard := some (3, false) }).run Try.prog (w) = .ok (.value (.bool true)) (w) := by
    have kc : ∀ v, a0_7.eval (.const v) = v := fun _ => rfl
    have e14 := (show a0_7.eval (.tmp 14) = .int .i64 mo from (fa0_7.at_ 14))
    clear fa0_7 ha hpg
    generalize a0_7.eval = ρ at *
    go_simp
  refine fa0_7.step 15 (.bool true) rfl (lb_ hsz) ((wanted_at (t := 13) (c := false) (b := false) rfl rfl rfl (lb_ (fa0_7.size.trans hsz)) (fa0_7.at_ 13)).trans (by rfl)) r_a0_8 (fun a0_8 fa0_8 => ?_)
  clear r_a0_8
  clear fa0_7
  have r_a0_9 : (execOp a0_8.eval { dst := some 16, op := Op.pick (Operand.tmp 13) (Operand.const (Value.bool true)) (Operand.tmp 15), type := 4, pos := "ref.go:52", after := #[{ on := 3, ground := Ground.data }, { on := 5, ground := Ground.data }], guard := none }).run Try.prog (w) = .ok (.value (.bool true)) (w) := by
    have kc : ∀ v, a0_8.eval (.const v) = v := fun _ => rfl
    have e13 := (show a0_8.eval (.tmp 13) = .bool false from (fa0_8.at_ 13))
    have e15 := (show a0_8.eval (.tmp 15) = .bool true from (fa0_8.at_ 15))
    clear fa0_8 ha hpg
    generalize a0_8.eval = ρ at *
    go_simp
  refine fa0_8.step 16 (.bool true) rfl (lb_ hsz) (wanted_none rfl) r_a0_9 (fun a0_9 fa0_9 => ?_)
  clear r_a0_9
  clear fa0_8
  refine fa0_9.move 17 (.bool true) _ (Or.inl rfl) rfl (lb_ hsz) (wanted_none rfl) (fa0_9.at_ 16) (fun a0_10 fa0_10 => ?_)
  clear fa0_9
  refine fa0_10.skip 18 rfl (lb_ hsz) ((wanted_at (t := 17) (c := true) (b := false) rfl rfl rfl (lb_ (fa0_10.size.trans hsz)) (fa0_10.at_ 17)).trans (by rfl)) (fun a0_11 fa0_11 => ?_)
  clear fa0_10
  refine fa0_11.skip 19 rfl (lb_ hsz) ((wanted_at (t := 17) (c := true) (b := false) rfl rfl rfl (lb_ (fa0_11.size.trans hsz)) (fa0_11.at_ 17)).trans (by rfl)) (fun a0_12 fa0_12 => ?_)
  clear fa0_11
  have r_a0_13 : (execOp a0_12.eval { dst := some 20, op := Op.pick (Operand.tmp 17) (Operand.const (Value.bool true)) (Operand.tmp 19), type := 4, pos := "ref.go:52", after := #[{ on := 7, ground := Ground.data }, { on := 9, ground := Ground.data }], guard := none }).run Try.prog (w) = .ok (.value (.bool true)) (w) := by
    have kc : ∀ v, a0_12.eval (.const v) = v := fun _ => rfl
    have e17 := (show a0_12.eval (.tmp 17) = .bool true from (fa0_12.at_ 17))
    have e19 := (show a0_12.eval (.tmp 19) = undef from (fa0_12.at_ 19))
    clear fa0_12 ha hpg
    generalize a0_12.eval = ρ at *
    go_simp
  refine fa0_12.step 20 (.bool true) rfl (lb_ hsz) (wanted_none rfl) r_a0_13 (fun a0_13 fa0_13 => ?_)
  clear r_a0_13
  clear fa0_12
  refine wpList_nil ?_
  change Code.wp _ _ _ _ _
  refine wp_cond_true (show a0_13.eval (.tmp 20) = .bool true from (fa0_13.at_ 20)) ?_
  change Code.wp _ _ _ _ _
  refine wp_seq ?_
  refine wp_region_list ?_
  unfold rDK2
  refine fa0_13.move 6 (.pointer none) _ (Or.inr rfl) rfl (lb_ hsz) (wanted_none rfl) rfl (fun a0_14 fa0_14 => ?_)
  clear fa0_13
  refine fa0_14.move 7 (.int .i64 2) _ (Or.inr rfl) rfl (lb_ hsz) (wanted_none rfl) rfl (fun a0_15 fa0_15 => ?_)
  clear fa0_14
  refine wpList_nil ?_
  change Code.wp _ _ _ _ _
  refine wp_ret ?_
  simp only [Exit.then]
  refine bodyPost_ret (results_tmp2 rfl _ _ _) (fa0_15.defers.trans hd) ?_
  refine ⟨congrArg Ending.returned ?_, Fr.refl _ _⟩
  show Value.tuple #[a0_15.eval (.tmp 6), a0_15.eval (.tmp 7)] = _
  rw [(show a0_15.eval (.tmp 6) = .pointer none from (fa0_15.at_ 6)), (show a0_15.eval (.tmp 7) = .int .i64 2 from (fa0_15.at_ 7))]
set_option maxRecDepth 100000 in
set_option maxHeartbeats 1000000 in
theorem rfrom_most {pg mo : Int} {ia : Option Addr} {ic : Nat} {L : List ByteArray} (w : World) (hpg : pg = 1024 ∨ pg = 2048 ∨ pg = 4096 ∨ pg = 8192) (m2 : 65536 < mo) :
    Calls Try.prog 4 #[.int .i64 pg, .int .i64 mo, .slice ia L.length ic] w fun e w' => e = .returned (.tuple #[.pointer none, .int .i64 2]) ∧ Same w w' := by
  have m1 : ¬ mo < 1 := by omega
  refine calls_abs (c := cDK) Try.func4 (by kernel_rfl) 56 rfl (by simp) (fun a0 hsz hd ha => ?_)
  have fa0_0 := Fe.refl a0
  unfold cDK
  refine wp_seq ?_
  refine wp_region_list ?_
  unfold rDK0
  refine fa0_0.move 6 (.pointer none) _ (Or.inr rfl) rfl (lb_ hsz) (wanted_none rfl) rfl (fun a0_1 fa0_1 => ?_)
  clear fa0_0
  refine fa0_1.move 7 (.int .i64 0) _ (Or.inr rfl) rfl (lb_ hsz) (wanted_none rfl) rfl (fun a0_2 fa0_2 => ?_)
  clear fa0_1
  refine wpList_nil ?_
  change Code.wp _ _ _ _ _
  refine wp_seq (wp_seq ?_)
  refine wp_region_list ?_
  unfold rDK1
  refine fa0_2.move 10 (.int .i64 pg) _ (Or.inl rfl) rfl (lb_ hsz) (wanted_none rfl) ((fa0_2.at_ 0).trans (ha 0 _ rfl)) (fun a0_3 fa0_3 => ?_)
  clear fa0_2
  have r_a0_4 : (execOp a0_3.eval { dst := some 11, op := Op.call { callee := Callee.value (Operand.func 11), args := #[Operand.tmp 10], argTypes := #[3] }, type := 4, pos := "ref.go:52", after := #[{ on := 0, ground := Ground.data }], guard := none }).run Try.prog (w) = .ok (.enter 11 #[.int .i64 pg]) (w) := by
    have kf : ∀ f, a0_3.eval (.func f) = .func (.func f) #[] #[] := fun _ => rfl
    have e10 := (show a0_3.eval (.tmp 10) = .int .i64 pg from (fa0_3.at_ 10))
    clear fa0_3 ha hpg
    generalize a0_3.eval = ρ at *
    go_simp
  refine fa0_3.call 11 rfl (lb_ hsz) (wanted_none rfl) r_a0_4 (paged_calls w hpg) (fun e w1 hR => ?_)
  obtain ⟨rfl, hw1⟩ := hR
  clear r_a0_4
  have hw1 := hw1.symm
  subst hw1
  refine ⟨_, rfl, fun a0_4 fa0_4 => ?_⟩
  clear fa0_3
  have r_a0_5 : (execOp a0_4.eval { dst := some 12, op := Op.unOp UnOp.not 4 (Operand.tmp 11), type := 4, pos := "ref.go:52", after := #[{ on := 1, ground := Ground.data }], guard := none }).run Try.prog (w) = .ok (.value (.bool false)) (w) := by
    have e11 := (show a0_4.eval (.tmp 11) = .bool true from (fa0_4.at_ 11))
    clear fa0_4 ha hpg
    generalize a0_4.eval = ρ at *
    go_simp
  refine fa0_4.step 12 (.bool false) rfl (lb_ hsz) (wanted_none rfl) r_a0_5 (fun a0_5 fa0_5 => ?_)
  clear r_a0_5
  clear fa0_4
  refine fa0_5.move 13 (.bool false) _ (Or.inl rfl) rfl (lb_ hsz) (wanted_none rfl) (fa0_5.at_ 12) (fun a0_6 fa0_6 => ?_)
  clear fa0_5
  refine fa0_6.move 14 (.int .i64 mo) _ (Or.inl rfl) rfl (lb_ hsz) ((wanted_at (t := 13) (c := false) (b := false) rfl rfl rfl (lb_ (fa0_6.size.trans hsz)) (fa0_6.at_ 13)).trans (by rfl)) ((fa0_6.at_ 1).trans (ha 1 _ rfl)) (fun a0_7 fa0_7 => ?_)
  clear fa0_6
  have r_a0_8 : (execOp a0_7.eval { dst := some 15, op := Op.binOp BinOp.lss 3 (Operand.tmp 14) (Operand.const (Value.int IntKind.i64 1)) 3, type := 4, pos := "ref.go:52", after := #[{ on := 4, ground := Ground.data }, { on := 3, ground := Ground.guard }], guard := some (3, false) }).run Try.prog (w) = .ok (.value (.bool false)) (w) := by
    have kc : ∀ v, a0_7.eval (.const v) = v := fun _ => rfl
    have e14 := (show a0_7.eval (.tmp 14) = .int .i64 mo from (fa0_7.at_ 14))
    clear fa0_7 ha hpg
    generalize a0_7.eval = ρ at *
    go_simp
  refine fa0_7.step 15 (.bool false) rfl (lb_ hsz) ((wanted_at (t := 13) (c := false) (b := false) rfl rfl rfl (lb_ (fa0_7.size.trans hsz)) (fa0_7.at_ 13)).trans (by rfl)) r_a0_8 (fun a0_8 fa0_8 => ?_)
  clear r_a0_8
  clear fa0_7
  have r_a0_9 : (execOp a0_8.eval { dst := some 16, op := Op.pick (Operand.tmp 13) (Operand.const (Value.bool true)) (Operand.tmp 15), type := 4, pos := "ref.go:52", after := #[{ on := 3, ground := Ground.data }, { on := 5, ground := Ground.data }], guard := none }).run Try.prog (w) = .ok (.value (.bool false)) (w) := by
    have kc : ∀ v, a0_8.eval (.const v) = v := fun _ => rfl
    have e13 := (show a0_8.eval (.tmp 13) = .bool false from (fa0_8.at_ 13))
    have e15 := (show a0_8.eval (.tmp 15) = .bool false from (fa0_8.at_ 15))
    clear fa0_8 ha hpg
    generalize a0_8.eval = ρ at *
    go_simp
  refine fa0_8.step 16 (.bool false) rfl (lb_ hsz) (wanted_none rfl) r_a0_9 (fun a0_9 fa0_9 => ?_)
  clear r_a0_9
  clear fa0_8
  refine fa0_9.move 17 (.bool false) _ (Or.inl rfl) rfl (lb_ hsz) (wanted_none rfl) (fa0_9.at_ 16) (fun a0_10 fa0_10 => ?_)
  clear fa0_9
  refine fa0_10.move 18 (.int .i64 mo) _ (Or.inl rfl) rfl (lb_ hsz) ((wanted_at (t := 17) (c := false) (b := false) rfl rfl rfl (lb_ (fa0_10.size.trans hsz)) (fa0_10.at_ 17)).trans (by rfl)) ((fa0_10.at_ 1).trans (ha 1 _ rfl)) (fun a0_11 fa0_11 => ?_)
  clear fa0_10
  have r_a0_12 : (execOp a0_11.eval { dst := some 19, op := Op.binOp BinOp.gtr 3 (Operand.tmp 18) (Operand.const (Value.int IntKind.i64 65536)) 3, type := 4, pos := "ref.go:52", after := #[{ on := 8, ground := Ground.data }, { on := 7, ground := Ground.guard }], guard := some (7, false) }).run Try.prog (w) = .ok (.value (.bool true)) (w) := by
    have kc : ∀ v, a0_11.eval (.const v) = v := fun _ => rfl
    have e18 := (show a0_11.eval (.tmp 18) = .int .i64 mo from (fa0_11.at_ 18))
    clear fa0_11 ha hpg
    generalize a0_11.eval = ρ at *
    go_simp
  refine fa0_11.step 19 (.bool true) rfl (lb_ hsz) ((wanted_at (t := 17) (c := false) (b := false) rfl rfl rfl (lb_ (fa0_11.size.trans hsz)) (fa0_11.at_ 17)).trans (by rfl)) r_a0_12 (fun a0_12 fa0_12 => ?_)
  clear r_a0_12
  clear fa0_11
  have r_a0_13 : (execOp a0_12.eval { dst := some 20, op := Op.pick (Operand.tmp 17) (Operand.const (Value.bool true)) (Operand.tmp 19), type := 4, pos := "ref.go:52", after := #[{ on := 7, ground := Ground.data }, { on := 9, ground := Ground.data }], guard := none }).run Try.prog (w) = .ok (.value (.bool true)) (w) := by
    have kc : ∀ v, a0_12.eval (.const v) = v := fun _ => rfl
    have e17 := (show a0_12.eval (.tmp 17) = .bool false from (fa0_12.at_ 17))
    have e19 := (show a0_12.eval (.tmp 19) = .bool true from (fa0_12.at_ 19))
    clear fa0_12 ha hpg
    generalize a0_12.eval = ρ at *
    go_simp
  refine fa0_12.step 20 (.bool true) rfl (lb_ hsz) (wanted_none rfl) r_a0_13 (fun a0_13 fa0_13 => ?_)
  clear r_a0_13
  clear fa0_12
  refine wpList_nil ?_
  change Code.wp _ _ _ _ _
  refine wp_cond_true (show a0_13.eval (.tmp 20) = .bool true from (fa0_13.at_ 20)) ?_
  change Code.wp _ _ _ _ _
  refine wp_seq ?_
  refine wp_region_list ?_
  unfold rDK2
  refine fa0_13.move 6 (.pointer none) _ (Or.inr rfl) rfl (lb_ hsz) (wanted_none rfl) rfl (fun a0_14 fa0_14 => ?_)
  clear fa0_13
  refine fa0_14.move 7 (.int .i64 2) _ (Or.inr rfl) rfl (lb_ hsz) (wanted_none rfl) rfl (fun a0_15 fa0_15 => ?_)
  clear fa0_14
  refine wpList_nil ?_
  change Code.wp _ _ _ _ _
  refine wp_ret ?_
  simp only [Exit.then]
  refine bodyPost_ret (results_tmp2 rfl _ _ _) (fa0_15.defers.trans hd) ?_
  refine ⟨congrArg Ending.returned ?_, Fr.refl _ _⟩
  show Value.tuple #[a0_15.eval (.tmp 6), a0_15.eval (.tmp 7)] = _
  rw [(show a0_15.eval (.tmp 6) = .pointer none from (fa0_15.at_ 6)), (show a0_15.eval (.tmp 7) = .int .i64 2 from (fa0_15.at_ 7))]
theorem rfrom_bad {pg mo : Int} {ia : Option Addr} {ic : Nat} {L : List ByteArray} (w : World) (hb : ¬ ((pg = 1024 ∨ pg = 2048 ∨ pg = 4096 ∨ pg = 8192) ∧ 1 ≤ mo ∧ mo ≤ 65536)) :
    Calls Try.prog 4 #[.int .i64 pg, .int .i64 mo, .slice ia L.length ic] w fun e w' => e = .returned (.tuple #[.pointer none, .int .i64 2]) ∧ Same w w' := by
  by_cases h1 : pg = 1024 ∨ pg = 2048 ∨ pg = 4096 ∨ pg = 8192
  · by_cases h2 : mo < 1
    · exact rfrom_least w h1 h2
    · exact rfrom_most w h1 (by
        by_cases h3 : mo ≤ 65536
        · exact absurd ⟨h1, by omega, h3⟩ hb
        · omega)
  · exact rfrom_page w h1
set_option maxRecDepth 100000 in
set_option maxHeartbeats 1000000 in
theorem rfrom_long {pg mo : Int} {ia : Option Addr} {ic : Nat} {L : List ByteArray} (w : World) (hpg : pg = 1024 ∨ pg = 2048 ∨ pg = 4096 ∨ pg = 8192) (h1 : 1 ≤ mo) (h2 : mo ≤ 65536) (m3 : mo < (L.length : Int)) :
    Calls Try.prog 4 #[.int .i64 pg, .int .i64 mo, .slice ia L.length ic] w fun e w' => e = .returned (.tuple #[.pointer none, .int .i64 42]) ∧ Same w w' := by
  have m1 : ¬ mo < 1 := by omega
  have m2 : ¬ (65536 : Int) < mo := by omega
  refine calls_abs (c := cDK) Try.func4 (by kernel_rfl) 56 rfl (by simp) (fun a0 hsz hd ha => ?_)
  have fa0_0 := Fe.refl a0
  unfold cDK
  refine wp_seq ?_
  refine wp_region_list ?_
  unfold rDK0
  refine fa0_0.move 6 (.pointer none) _ (Or.inr rfl) rfl (lb_ hsz) (wanted_none rfl) rfl (fun a0_1 fa0_1 => ?_)
  clear fa0_0
  refine fa0_1.move 7 (.int .i64 0) _ (Or.inr rfl) rfl (lb_ hsz) (wanted_none rfl) rfl (fun a0_2 fa0_2 => ?_)
  clear fa0_1
  refine wpList_nil ?_
  change Code.wp _ _ _ _ _
  refine wp_seq (wp_seq ?_)
  refine wp_region_list ?_
  unfold rDK1
  refine fa0_2.move 10 (.int .i64 pg) _ (Or.inl rfl) rfl (lb_ hsz) (wanted_none rfl) ((fa0_2.at_ 0).trans (ha 0 _ rfl)) (fun a0_3 fa0_3 => ?_)
  clear fa0_2
  have r_a0_4 : (execOp a0_3.eval { dst := some 11, op := Op.call { callee := Callee.value (Operand.func 11), args := #[Operand.tmp 10], argTypes := #[3] }, type := 4, pos := "ref.go:52", after := #[{ on := 0, ground := Ground.data }], guard := none }).run Try.prog (w) = .ok (.enter 11 #[.int .i64 pg]) (w) := by
    have kf : ∀ f, a0_3.eval (.func f) = .func (.func f) #[] #[] := fun _ => rfl
    have e10 := (show a0_3.eval (.tmp 10) = .int .i64 pg from (fa0_3.at_ 10))
    clear fa0_3 ha hpg
    generalize a0_3.eval = ρ at *
    go_simp
  refine fa0_3.call 11 rfl (lb_ hsz) (wanted_none rfl) r_a0_4 (paged_calls w hpg) (fun e w1 hR => ?_)
  obtain ⟨rfl, hw1⟩ := hR
  clear r_a0_4
  have hw1 := hw1.symm
  subst hw1
  refine ⟨_, rfl, fun a0_4 fa0_4 => ?_⟩
  clear fa0_3
  have r_a0_5 : (execOp a0_4.eval { dst := some 12, op := Op.unOp UnOp.not 4 (Operand.tmp 11), type := 4, pos := "ref.go:52", after := #[{ on := 1, ground := Ground.data }], guard := none }).run Try.prog (w) = .ok (.value (.bool false)) (w) := by
    have e11 := (show a0_4.eval (.tmp 11) = .bool true from (fa0_4.at_ 11))
    clear fa0_4 ha hpg
    generalize a0_4.eval = ρ at *
    go_simp
  refine fa0_4.step 12 (.bool false) rfl (lb_ hsz) (wanted_none rfl) r_a0_5 (fun a0_5 fa0_5 => ?_)
  clear r_a0_5
  clear fa0_4
  refine fa0_5.move 13 (.bool false) _ (Or.inl rfl) rfl (lb_ hsz) (wanted_none rfl) (fa0_5.at_ 12) (fun a0_6 fa0_6 => ?_)
  clear fa0_5
  refine fa0_6.move 14 (.int .i64 mo) _ (Or.inl rfl) rfl (lb_ hsz) ((wanted_at (t := 13) (c := false) (b := false) rfl rfl rfl (lb_ (fa0_6.size.trans hsz)) (fa0_6.at_ 13)).trans (by rfl)) ((fa0_6.at_ 1).trans (ha 1 _ rfl)) (fun a0_7 fa0_7 => ?_)
  clear fa0_6
  have r_a0_8 : (execOp a0_7.eval { dst := some 15, op := Op.binOp BinOp.lss 3 (Operand.tmp 14) (Operand.const (Value.int IntKind.i64 1)) 3, type := 4, pos := "ref.go:52", after := #[{ on := 4, ground := Ground.data }, { on := 3, ground := Ground.guard }], guard := some (3, false) }).run Try.prog (w) = .ok (.value (.bool false)) (w) := by
    have kc : ∀ v, a0_7.eval (.const v) = v := fun _ => rfl
    have e14 := (show a0_7.eval (.tmp 14) = .int .i64 mo from (fa0_7.at_ 14))
    clear fa0_7 ha hpg
    generalize a0_7.eval = ρ at *
    go_simp
  refine fa0_7.step 15 (.bool false) rfl (lb_ hsz) ((wanted_at (t := 13) (c := false) (b := false) rfl rfl rfl (lb_ (fa0_7.size.trans hsz)) (fa0_7.at_ 13)).trans (by rfl)) r_a0_8 (fun a0_8 fa0_8 => ?_)
  clear r_a0_8
  clear fa0_7
  have r_a0_9 : (execOp a0_8.eval { dst := some 16, op := Op.pick (Operand.tmp 13) (Operand.const (Value.bool true)) (Operand.tmp 15), type := 4, pos := "ref.go:52", after := #[{ on := 3, ground := Ground.data }, { on := 5, ground := Ground.data }], guard := none }).run Try.prog (w) = .ok (.value (.bool false)) (w) := by
    have kc : ∀ v, a0_8.eval (.const v) = v := fun _ => rfl
    have e13 := (show a0_8.eval (.tmp 13) = .bool false from (fa0_8.at_ 13))
    have e15 := (show a0_8.eval (.tmp 15) = .bool false from (fa0_8.at_ 15))
    clear fa0_8 ha hpg
    generalize a0_8.eval = ρ at *
    go_simp
  refine fa0_8.step 16 (.bool false) rfl (lb_ hsz) (wanted_none rfl) r_a0_9 (fun a0_9 fa0_9 => ?_)
  clear r_a0_9
  clear fa0_8
  refine fa0_9.move 17 (.bool false) _ (Or.inl rfl) rfl (lb_ hsz) (wanted_none rfl) (fa0_9.at_ 16) (fun a0_10 fa0_10 => ?_)
  clear fa0_9
  refine fa0_10.move 18 (.int .i64 mo) _ (Or.inl rfl) rfl (lb_ hsz) ((wanted_at (t := 17) (c := false) (b := false) rfl rfl rfl (lb_ (fa0_10.size.trans hsz)) (fa0_10.at_ 17)).trans (by rfl)) ((fa0_10.at_ 1).trans (ha 1 _ rfl)) (fun a0_11 fa0_11 => ?_)
  clear fa0_10
  have r_a0_12 : (execOp a0_11.eval { dst := some 19, op := Op.binOp BinOp.gtr 3 (Operand.tmp 18) (Operand.const (Value.int IntKind.i64 65536)) 3, type := 4, pos := "ref.go:52", after := #[{ on := 8, ground := Ground.data }, { on := 7, ground := Ground.guard }], guard := some (7, false) }).run Try.prog (w) = .ok (.value (.bool false)) (w) := by
    have kc : ∀ v, a0_11.eval (.const v) = v := fun _ => rfl
    have e18 := (show a0_11.eval (.tmp 18) = .int .i64 mo from (fa0_11.at_ 18))
    clear fa0_11 ha hpg
    generalize a0_11.eval = ρ at *
    go_simp
  refine fa0_11.step 19 (.bool false) rfl (lb_ hsz) ((wanted_at (t := 17) (c := false) (b := false) rfl rfl rfl (lb_ (fa0_11.size.trans hsz)) (fa0_11.at_ 17)).trans (by rfl)) r_a0_12 (fun a0_12 fa0_12 => ?_)
  clear r_a0_12
  clear fa0_11
  have r_a0_13 : (execOp a0_12.eval { dst := some 20, op := Op.pick (Operand.tmp 17) (Operand.const (Value.bool true)) (Operand.tmp 19), type := 4, pos := "ref.go:52", after := #[{ on := 7, ground := Ground.data }, { on := 9, ground := Ground.data }], guard := none }).run Try.prog (w) = .ok (.value (.bool false)) (w) := by
    have kc : ∀ v, a0_12.eval (.const v) = v := fun _ => rfl
    have e17 := (show a0_12.eval (.tmp 17) = .bool false from (fa0_12.at_ 17))
    have e19 := (show a0_12.eval (.tmp 19) = .bool false from (fa0_12.at_ 19))
    clear fa0_12 ha hpg
    generalize a0_12.eval = ρ at *
    go_simp
  refine fa0_12.step 20 (.bool false) rfl (lb_ hsz) (wanted_none rfl) r_a0_13 (fun a0_13 fa0_13 => ?_)
  clear r_a0_13
  clear fa0_12
  refine wpList_nil ?_
  change Code.wp _ _ _ _ _
  refine wp_cond_false (show a0_13.eval (.tmp 20) = .bool false from (fa0_13.at_ 20)) (wp_skip ?_)
  change Code.wp _ _ _ _ _
  refine wp_seq (wp_seq ?_)
  refine wp_region_list ?_
  unfold rDK3
  refine fa0_13.move 21 (.slice ia L.length ic) _ (Or.inl rfl) rfl (lb_ hsz) (wanted_none rfl) ((fa0_13.at_ 2).trans (ha 2 _ rfl)) (fun a0_14 fa0_14 => ?_)
  clear fa0_13
  have r_a0_15 : (execOp a0_14.eval { dst := some 22, op := Op.call { callee := Callee.builtin Builtin.len, args := #[Operand.tmp 21], argTypes := #[22] }, type := 3, pos := "ref.go:55", after := #[{ on := 0, ground := Ground.data }], guard := none }).run Try.prog (w) = .ok (.value (.int .i64 (L.length : Int))) (w) := by
    have e21 := (show a0_14.eval (.tmp 21) = .slice ia L.length ic from (fa0_14.at_ 21))
    clear fa0_14 ha hpg
    generalize a0_14.eval = ρ at *
    go_simp
  refine fa0_14.step 22 (.int .i64 (L.length : Int)) rfl (lb_ hsz) (wanted_none rfl) r_a0_15 (fun a0_15 fa0_15 => ?_)
  clear r_a0_15
  clear fa0_14
  refine fa0_15.move 23 (.int .i64 mo) _ (Or.inl rfl) rfl (lb_ hsz) (wanted_none rfl) ((fa0_15.at_ 1).trans (ha 1 _ rfl)) (fun a0_16 fa0_16 => ?_)
  clear fa0_15
  have r_a0_17 : (execOp a0_16.eval { dst := some 24, op := Op.binOp BinOp.gtr 3 (Operand.tmp 22) (Operand.tmp 23) 3, type := 4, pos := "ref.go:55", after := #[{ on := 1, ground := Ground.data }, { on := 2, ground := Ground.data }], guard := none }).run Try.prog (w) = .ok (.value (.bool true)) (w) := by
    have e22 := (show a0_16.eval (.tmp 22) = .int .i64 (L.length : Int) from (fa0_16.at_ 22))
    have e23 := (show a0_16.eval (.tmp 23) = .int .i64 mo from (fa0_16.at_ 23))
    clear fa0_16 ha hpg
    generalize a0_16.eval = ρ at *
    go_simp
  refine fa0_16.step 24 (.bool true) rfl (lb_ hsz) (wanted_none rfl) r_a0_17 (fun a0_17 fa0_17 => ?_)
  clear r_a0_17
  clear fa0_16
  refine wpList_nil ?_
  change Code.wp _ _ _ _ _
  refine wp_cond_true (show a0_17.eval (.tmp 24) = .bool true from (fa0_17.at_ 24)) ?_
  change Code.wp _ _ _ _ _
  refine wp_seq ?_
  refine wp_region_list ?_
  unfold rDK4
  refine fa0_17.move 6 (.pointer none) _ (Or.inr rfl) rfl (lb_ hsz) (wanted_none rfl) rfl (fun a0_18 fa0_18 => ?_)
  clear fa0_17
  refine fa0_18.move 7 (.int .i64 42) _ (Or.inr rfl) rfl (lb_ hsz) (wanted_none rfl) rfl (fun a0_19 fa0_19 => ?_)
  clear fa0_18
  refine wpList_nil ?_
  change Code.wp _ _ _ _ _
  refine wp_ret ?_
  simp only [Exit.then]
  refine bodyPost_ret (results_tmp2 rfl _ _ _) (fa0_19.defers.trans hd) ?_
  refine ⟨congrArg Ending.returned ?_, Fr.refl _ _⟩
  show Value.tuple #[a0_19.eval (.tmp 6), a0_19.eval (.tmp 7)] = _
  rw [(show a0_19.eval (.tmp 6) = .pointer none from (fa0_19.at_ 6)), (show a0_19.eval (.tmp 7) = .int .i64 42 from (fa0_19.at_ 7))]
set_option maxRecDepth 100000 in
set_option maxHeartbeats 1000000 in
theorem rfrom_image {pb po : Nat} {pg mo : Int} {ia : Option Addr} {ic : Nat} {L : List ByteArray} (w : World) (hpg : pg = 1024 ∨ pg = 2048 ∨ pg = 4096 ∨ pg = 8192) (h1 : 1 ≤ mo) (h2 : mo ≤ 65536) (m3 : ¬ mo < (L.length : Int)) (hl : L.length ≤ 1048576) (hT : TRow w ia pb po L) :
    Calls Try.prog 4 #[.int .i64 pg, .int .i64 mo, .slice ia L.length ic] w fun e w' => (L.any (sizeNo pg) = true ∧ e = .returned (.tuple #[.pointer none, .int .i64 42]) ∧ Same w w') ∨ (L.any (sizeNo pg) = false ∧ ∃ b, e = .returned (.tuple #[.pointer (some ⟨b, 0, none⟩), .int .i64 0]) ∧ RdAt w' b pg mo L ∧ Same w w') := by
  have m1 : ¬ mo < 1 := by omega
  have m2 : ¬ (65536 : Int) < mo := by omega
  refine calls_abs (c := cDK) Try.func4 (by kernel_rfl) 56 rfl (by simp) (fun a0 hsz hd ha => ?_)
  have fa0_0 := Fe.refl a0
  unfold cDK
  refine wp_seq ?_
  refine wp_region_list ?_
  unfold rDK0
  refine fa0_0.move 6 (.pointer none) _ (Or.inr rfl) rfl (lb_ hsz) (wanted_none rfl) rfl (fun a0_1 fa0_1 => ?_)
  clear fa0_0
  refine fa0_1.move 7 (.int .i64 0) _ (Or.inr rfl) rfl (lb_ hsz) (wanted_none rfl) rfl (fun a0_2 fa0_2 => ?_)
  clear fa0_1
  refine wpList_nil ?_
  change Code.wp _ _ _ _ _
  refine wp_seq (wp_seq ?_)
  refine wp_region_list ?_
  unfold rDK1
  refine fa0_2.move 10 (.int .i64 pg) _ (Or.inl rfl) rfl (lb_ hsz) (wanted_none rfl) ((fa0_2.at_ 0).trans (ha 0 _ rfl)) (fun a0_3 fa0_3 => ?_)
  clear fa0_2
  have r_a0_4 : (execOp a0_3.eval { dst := some 11, op := Op.call { callee := Callee.value (Operand.func 11), args := #[Operand.tmp 10], argTypes := #[3] }, type := 4, pos := "ref.go:52", after := #[{ on := 0, ground := Ground.data }], guard := none }).run Try.prog (w) = .ok (.enter 11 #[.int .i64 pg]) (w) := by
    have kf : ∀ f, a0_3.eval (.func f) = .func (.func f) #[] #[] := fun _ => rfl
    have e10 := (show a0_3.eval (.tmp 10) = .int .i64 pg from (fa0_3.at_ 10))
    clear fa0_3 ha hpg hT
    generalize a0_3.eval = ρ at *
    go_simp
  refine fa0_3.call 11 rfl (lb_ hsz) (wanted_none rfl) r_a0_4 (paged_calls w hpg) (fun e w1 hR => ?_)
  obtain ⟨rfl, hw1⟩ := hR
  clear r_a0_4
  have hw1 := hw1.symm
  subst hw1
  refine ⟨_, rfl, fun a0_4 fa0_4 => ?_⟩
  clear fa0_3
  have r_a0_5 : (execOp a0_4.eval { dst := some 12, op := Op.unOp UnOp.not 4 (Operand.tmp 11), type := 4, pos := "ref.go:52", after := #[{ on := 1, ground := Ground.data }], guard := none }).run Try.prog (w) = .ok (.value (.bool false)) (w) := by
    have e11 := (show a0_4.eval (.tmp 11) = .bool true from (fa0_4.at_ 11))
    clear fa0_4 ha hpg hT
    generalize a0_4.eval = ρ at *
    go_simp
  refine fa0_4.step 12 (.bool false) rfl (lb_ hsz) (wanted_none rfl) r_a0_5 (fun a0_5 fa0_5 => ?_)
  clear r_a0_5
  clear fa0_4
  refine fa0_5.move 13 (.bool false) _ (Or.inl rfl) rfl (lb_ hsz) (wanted_none rfl) (fa0_5.at_ 12) (fun a0_6 fa0_6 => ?_)
  clear fa0_5
  refine fa0_6.move 14 (.int .i64 mo) _ (Or.inl rfl) rfl (lb_ hsz) ((wanted_at (t := 13) (c := false) (b := false) rfl rfl rfl (lb_ (fa0_6.size.trans hsz)) (fa0_6.at_ 13)).trans (by rfl)) ((fa0_6.at_ 1).trans (ha 1 _ rfl)) (fun a0_7 fa0_7 => ?_)
  clear fa0_6
  have r_a0_8 : (execOp a0_7.eval { dst := some 15, op := Op.binOp BinOp.lss 3 (Operand.tmp 14) (Operand.const (Value.int IntKind.i64 1)) 3, type := 4, pos := "ref.go:52", after := #[{ on := 4, ground := Ground.data }, { on := 3, ground := Ground.guard }], guard := some (3, false) }).run Try.prog (w) = .ok (.value (.bool false)) (w) := by
    have kc : ∀ v, a0_7.eval (.const v) = v := fun _ => rfl
    have e14 := (show a0_7.eval (.tmp 14) = .int .i64 mo from (fa0_7.at_ 14))
    clear fa0_7 ha hpg hT
    generalize a0_7.eval = ρ at *
    go_simp
  refine fa0_7.step 15 (.bool false) rfl (lb_ hsz) ((wanted_at (t := 13) (c := false) (b := false) rfl rfl rfl (lb_ (fa0_7.size.trans hsz)) (fa0_7.at_ 13)).trans (by rfl)) r_a0_8 (fun a0_8 fa0_8 => ?_)
  clear r_a0_8
  clear fa0_7
  have r_a0_9 : (execOp a0_8.eval { dst := some 16, op := Op.pick (Operand.tmp 13) (Operand.const (Value.bool true)) (Operand.tmp 15), type := 4, pos := "ref.go:52", after := #[{ on := 3, ground := Ground.data }, { on := 5, ground := Ground.data }], guard := none }).run Try.prog (w) = .ok (.value (.bool false)) (w) := by
    have kc : ∀ v, a0_8.eval (.const v) = v := fun _ => rfl
    have e13 := (show a0_8.eval (.tmp 13) = .bool false from (fa0_8.at_ 13))
    have e15 := (show a0_8.eval (.tmp 15) = .bool false from (fa0_8.at_ 15))
    clear fa0_8 ha hpg hT
    generalize a0_8.eval = ρ at *
    go_simp
  refine fa0_8.step 16 (.bool false) rfl (lb_ hsz) (wanted_none rfl) r_a0_9 (fun a0_9 fa0_9 => ?_)
  clear r_a0_9
  clear fa0_8
  refine fa0_9.move 17 (.bool false) _ (Or.inl rfl) rfl (lb_ hsz) (wanted_none rfl) (fa0_9.at_ 16) (fun a0_10 fa0_10 => ?_)
  clear fa0_9
  refine fa0_10.move 18 (.int .i64 mo) _ (Or.inl rfl) rfl (lb_ hsz) ((wanted_at (t := 17) (c := false) (b := false) rfl rfl rfl (lb_ (fa0_10.size.trans hsz)) (fa0_10.at_ 17)).trans (by rfl)) ((fa0_10.at_ 1).trans (ha 1 _ rfl)) (fun a0_11 fa0_11 => ?_)
  clear fa0_10
  have r_a0_12 : (execOp a0_11.eval { dst := some 19, op := Op.binOp BinOp.gtr 3 (Operand.tmp 18) (Operand.const (Value.int IntKind.i64 65536)) 3, type := 4, pos := "ref.go:52", after := #[{ on := 8, ground := Ground.data }, { on := 7, ground := Ground.guard }], guard := some (7, false) }).run Try.prog (w) = .ok (.value (.bool false)) (w) := by
    have kc : ∀ v, a0_11.eval (.const v) = v := fun _ => rfl
    have e18 := (show a0_11.eval (.tmp 18) = .int .i64 mo from (fa0_11.at_ 18))
    clear fa0_11 ha hpg hT
    generalize a0_11.eval = ρ at *
    go_simp
  refine fa0_11.step 19 (.bool false) rfl (lb_ hsz) ((wanted_at (t := 17) (c := false) (b := false) rfl rfl rfl (lb_ (fa0_11.size.trans hsz)) (fa0_11.at_ 17)).trans (by rfl)) r_a0_12 (fun a0_12 fa0_12 => ?_)
  clear r_a0_12
  clear fa0_11
  have r_a0_13 : (execOp a0_12.eval { dst := some 20, op := Op.pick (Operand.tmp 17) (Operand.const (Value.bool true)) (Operand.tmp 19), type := 4, pos := "ref.go:52", after := #[{ on := 7, ground := Ground.data }, { on := 9, ground := Ground.data }], guard := none }).run Try.prog (w) = .ok (.value (.bool false)) (w) := by
    have kc : ∀ v, a0_12.eval (.const v) = v := fun _ => rfl
    have e17 := (show a0_12.eval (.tmp 17) = .bool false from (fa0_12.at_ 17))
    have e19 := (show a0_12.eval (.tmp 19) = .bool false from (fa0_12.at_ 19))
    clear fa0_12 ha hpg hT
    generalize a0_12.eval = ρ at *
    go_simp
  refine fa0_12.step 20 (.bool false) rfl (lb_ hsz) (wanted_none rfl) r_a0_13 (fun a0_13 fa0_13 => ?_)
  clear r_a0_13
  clear fa0_12
  refine wpList_nil ?_
  change Code.wp _ _ _ _ _
  refine wp_cond_false (show a0_13.eval (.tmp 20) = .bool false from (fa0_13.at_ 20)) (wp_skip ?_)
  change Code.wp _ _ _ _ _
  refine wp_seq (wp_seq ?_)
  refine wp_region_list ?_
  unfold rDK3
  refine fa0_13.move 21 (.slice ia L.length ic) _ (Or.inl rfl) rfl (lb_ hsz) (wanted_none rfl) ((fa0_13.at_ 2).trans (ha 2 _ rfl)) (fun a0_14 fa0_14 => ?_)
  clear fa0_13
  have r_a0_15 : (execOp a0_14.eval { dst := some 22, op := Op.call { callee := Callee.builtin Builtin.len, args := #[Operand.tmp 21], argTypes := #[22] }, type := 3, pos := "ref.go:55", after := #[{ on := 0, ground := Ground.data }], guard := none }).run Try.prog (w) = .ok (.value (.int .i64 (L.length : Int))) (w) := by
    have e21 := (show a0_14.eval (.tmp 21) = .slice ia L.length ic from (fa0_14.at_ 21))
    clear fa0_14 ha hpg hT
    generalize a0_14.eval = ρ at *
    go_simp
  refine fa0_14.step 22 (.int .i64 (L.length : Int)) rfl (lb_ hsz) (wanted_none rfl) r_a0_15 (fun a0_15 fa0_15 => ?_)
  clear r_a0_15
  clear fa0_14
  refine fa0_15.move 23 (.int .i64 mo) _ (Or.inl rfl) rfl (lb_ hsz) (wanted_none rfl) ((fa0_15.at_ 1).trans (ha 1 _ rfl)) (fun a0_16 fa0_16 => ?_)
  clear fa0_15
  have r_a0_17 : (execOp a0_16.eval { dst := some 24, op := Op.binOp BinOp.gtr 3 (Operand.tmp 22) (Operand.tmp 23) 3, type := 4, pos := "ref.go:55", after := #[{ on := 1, ground := Ground.data }, { on := 2, ground := Ground.data }], guard := none }).run Try.prog (w) = .ok (.value (.bool false)) (w) := by
    have e22 := (show a0_16.eval (.tmp 22) = .int .i64 (L.length : Int) from (fa0_16.at_ 22))
    have e23 := (show a0_16.eval (.tmp 23) = .int .i64 mo from (fa0_16.at_ 23))
    clear fa0_16 ha hpg hT
    generalize a0_16.eval = ρ at *
    go_simp
  refine fa0_16.step 24 (.bool false) rfl (lb_ hsz) (wanted_none rfl) r_a0_17 (fun a0_17 fa0_17 => ?_)
  clear r_a0_17
  clear fa0_16
  refine wpList_nil ?_
  change Code.wp _ _ _ _ _
  refine wp_cond_false (show a0_17.eval (.tmp 24) = .bool false from (fa0_17.at_ 24)) (wp_skip ?_)
  change Code.wp _ _ _ _ _
  refine wp_seq ?_
  refine wp_region_list ?_
  unfold rDK5
  refine fa0_17.move 25 (.int .i64 pg) _ (Or.inl rfl) rfl (lb_ hsz) (wanted_none rfl) ((fa0_17.at_ 0).trans (ha 0 _ rfl)) (fun a0_18 fa0_18 => ?_)
  clear fa0_17
  refine fa0_18.move 26 (.int .i64 mo) _ (Or.inl rfl) rfl (lb_ hsz) (wanted_none rfl) ((fa0_18.at_ 1).trans (ha 1 _ rfl)) (fun a0_19 fa0_19 => ?_)
  clear fa0_18
  have r_a0_20 : (execOp a0_19.eval { dst := some 27, op := Op.build 42 #[(0, Operand.tmp 25), (1, Operand.tmp 26), (5, Operand.const (Value.bool true))], type := 42, pos := "ref.go:58", after := #[{ on := 0, ground := Ground.data }, { on := 1, ground := Ground.data }], guard := none }).run Try.prog (w) = .ok (.value (.agg #[.int .i64 pg, .int .i64 mo, .slice none 0 0, .slice none 0 0, .slice none 0 0, .bool true, .int .i64 0, .int .i64 0, .int .i64 0, .int .i64 0, .int .i64 0])) (w) := by
    have kc : ∀ v, a0_19.eval (.const v) = v := fun _ => rfl
    have e25 := (show a0_19.eval (.tmp 25) = .int .i64 pg from (fa0_19.at_ 25))
    have e26 := (show a0_19.eval (.tmp 26) = .int .i64 mo from (fa0_19.at_ 26))
    clear fa0_19 ha hpg hT
    generalize a0_19.eval = ρ at *
    go_simp
  refine fa0_19.step 27 (.agg #[.int .i64 pg, .int .i64 mo, .slice none 0 0, .slice none 0 0, .slice none 0 0, .bool true, .int .i64 0, .int .i64 0, .int .i64 0, .int .i64 0, .int .i64 0]) rfl (lb_ hsz) (wanted_none rfl) r_a0_20 (fun a0_20 fa0_20 => ?_)
  clear r_a0_20
  clear fa0_19
  have r_a0_21 : (execOp a0_20.eval { dst := some 28, op := Op.box 42 (Operand.tmp 27), type := 23, pos := "ref.go:58", after := #[{ on := 2, ground := Ground.data }], guard := none }).run Try.prog (w) = .ok (.value (.pointer (some ⟨w.heap.size, 0, none⟩))) (World.alloc w (.cells #[.int .i64 pg, .int .i64 mo, .slice none 0 0, .slice none 0 0, .slice none 0 0, .bool true, .int .i64 0, .int .i64 0, .int .i64 0, .int .i64 0, .int .i64 0] 42)) := by
    have e27 := (show a0_20.eval (.tmp 27) = .agg #[.int .i64 pg, .int .i64 mo, .slice none 0 0, .slice none 0 0, .slice none 0 0, .bool true, .int .i64 0, .int .i64 0, .int .i64 0, .int .i64 0, .int .i64 0] from (fa0_20.at_ 27))
    clear fa0_20 ha hpg hT
    generalize a0_20.eval = ρ at *
    go_simp
  refine fa0_20.stepW 28 (.pointer (some ⟨w.heap.size, 0, none⟩)) rfl (lb_ hsz) (wanted_none rfl) r_a0_21 (fun a0_21 fa0_21 => ?_)
  clear r_a0_21
  have sV : Same w (World.alloc w (.cells #[.int .i64 pg, .int .i64 mo, .slice none 0 0, .slice none 0 0, .slice none 0 0, .bool true, .int .i64 0, .int .i64 0, .int .i64 0, .int .i64 0, .int .i64 0] 42)) := (Fr.refl _ w).alloc _
  have rV : (World.alloc w (.cells #[.int .i64 pg, .int .i64 mo, .slice none 0 0, .slice none 0 0, .slice none 0 0, .bool true, .int .i64 0, .int .i64 0, .int .i64 0, .int .i64 0, .int .i64 0] 42)).heap[w.heap.size]? = some (.cells (rdC pg mo (.slice none 0 0)).toArray 42 (0, 0)) := heap_alloc_new w _
  generalize World.alloc w (.cells #[.int .i64 pg, .int .i64 mo, .slice none 0 0, .slice none 0 0, .slice none 0 0, .bool true, .int .i64 0, .int .i64 0, .int .i64 0, .int .i64 0, .int .i64 0] 42) = V at *
  clear fa0_20
  refine fa0_21.move 8 (.pointer (some ⟨w.heap.size, 0, none⟩)) _ (Or.inr rfl) rfl (lb_ hsz) (wanted_none rfl) (fa0_21.at_ 28) (fun a0_22 fa0_22 => ?_)
  clear fa0_21
  refine wpList_nil ?_
  change Code.wp _ _ _ _ _
  refine wp_seq (wp_seq ?_)
  refine wp_region_list ?_
  unfold rDK6
  refine fa0_22.move 9 (.int .i64 ((0 : Nat) : Int)) _ (Or.inr rfl) rfl (lb_ hsz) (wanted_none rfl) rfl (fun a0_23 fa0_23 => ?_)
  clear fa0_22
  refine wpList_nil ?_
  change Code.wp _ _ _ _ _
  refine wp_block ?_
  refine dkL (by intro c a d v w h; cases d <;> exact h) a0_23 V ⟨fa0_23.size.trans hsz, fa0_23.defers.trans hd, (show a0_23.eval (.tmp 0) = .int .i64 pg from ((fa0_23.at_ 0).trans (ha 0 _ rfl))), (show a0_23.eval (.tmp 2) = .slice ia L.length ic from ((fa0_23.at_ 2).trans (ha 2 _ rfl))), (show a0_23.eval (.tmp 8) = .pointer (some ⟨w.heap.size, 0, none⟩) from (fa0_23.at_ 8))⟩ (show a0_23.eval (.tmp 9) = .int .i64 ((0 : Nat) : Int) from (fa0_23.at_ 9)) hl hT sV (Nat.le_refl _) rV (fun hany a W hda h6 h7 sW => ?_) (fun hany b1 W da dc i1 r1 o1 sW => ?_)
  · simp only [Exit.then, Exit.inBlock]
    refine bodyPost_ret (results_tmp2 rfl _ _ _) hda ?_
    refine Or.inl ⟨hany, congrArg Ending.returned ?_, sW⟩
    show Value.tuple #[a.eval (.tmp 6), a.eval (.tmp 7)] = _
    rw [h6, h7]
  change Code.wp _ _ _ _ _
  refine wp_seq ?_
  have fb1_0 := Fe.refl b1
  refine wp_region_list ?_
  unfold rDK12
  refine fb1_0.move 55 (.pointer (some ⟨w.heap.size, 0, none⟩)) _ (Or.inl rfl) rfl (lb_ i1.size) (wanted_none rfl) ((fb1_0.at_ 8).trans i1.s8) (fun b1_1 fb1_1 => ?_)
  clear fb1_0
  refine fb1_1.move 6 (.pointer (some ⟨w.heap.size, 0, none⟩)) _ (Or.inr rfl) rfl (lb_ i1.size) (wanted_none rfl) (fb1_1.at_ 55) (fun b1_2 fb1_2 => ?_)
  clear fb1_1
  refine fb1_2.move 7 (.int .i64 0) _ (Or.inr rfl) rfl (lb_ i1.size) (wanted_none rfl) rfl (fun b1_3 fb1_3 => ?_)
  clear fb1_2
  refine wpList_nil ?_
  change Code.wp _ _ _ _ _
  refine wp_ret ?_
  refine bodyPost_ret (results_tmp2 rfl _ _ _) (fb1_3.defers.trans i1.defers) ?_
  refine Or.inr ⟨hany, w.heap.size, congrArg Ending.returned ?_, ⟨da, dc, r1, o1⟩, sW⟩
  show Value.tuple #[b1_3.eval (.tmp 6), b1_3.eval (.tmp 7)] = _
  rw [(show b1_3.eval (.tmp 6) = .pointer (some ⟨w.heap.size, 0, none⟩) from (fb1_3.at_ 6)), (show b1_3.eval (.tmp 7) = .int .i64 0 from (fb1_3.at_ 7))]
def rDS0 : Array Oper := #[{ dst := some 2, op := Op.assign (Operand.const (Value.int IntKind.i64 0)), type := 3, pos := "ref.go:72", after := #[], guard := none }]
def rDS1 : Array Oper := #[{ dst := some 5, op := Op.move (Operand.tmp 0), type := 23, pos := "ref.go:73", after := #[], guard := none },
  { dst := some 6, op := Op.nilCheck (Operand.tmp 5), type := 0, pos := "ref.go:73", after := #[{ on := 0, ground := Ground.data }], guard := none },
  { dst := some 7, op := Op.fieldAddr 42 (Operand.tmp 6) 2, type := 0, pos := "ref.go:73", after := #[{ on := 1, ground := Ground.data }], guard := none },
  { dst := some 8, op := Op.load 22 (Operand.tmp 7), type := 22, pos := "ref.go:73", after := #[{ on := 2, ground := Ground.data }], guard := none },
  { dst := some 9, op := Op.call { callee := Callee.builtin Builtin.len, args := #[Operand.tmp 8], argTypes := #[22] }, type := 3, pos := "ref.go:73", after := #[{ on := 3, ground := Ground.data }], guard := none },
  { dst := some 3, op := Op.assign (Operand.tmp 9), type := 3, pos := "ref.go:73", after := #[{ on := 4, ground := Ground.data }, { on := 0, ground := Ground.phase }, { on := 1, ground := Ground.phase }, { on := 2, ground := Ground.phase }, { on := 3, ground := Ground.phase }, { on := 4, ground := Ground.phase }], guard := none }]
def rDS2 : Array Oper := #[{ dst := some 4, op := Op.assign (Operand.const (Value.int IntKind.i64 0)), type := 3, pos := "ref.go:74", after := #[], guard := none }]
def rDS3 : Array Oper := #[{ dst := some 10, op := Op.move (Operand.tmp 4), type := 3, pos := "ref.go:74", after := #[], guard := none },
  { dst := some 11, op := Op.move (Operand.tmp 0), type := 23, pos := "ref.go:74", after := #[], guard := none },
  { dst := some 12, op := Op.nilCheck (Operand.tmp 11), type := 0, pos := "ref.go:74", after := #[{ on := 1, ground := Ground.data }], guard := none },
  { dst := some 13, op := Op.fieldAddr 42 (Operand.tmp 12) 3, type := 0, pos := "ref.go:74", after := #[{ on := 2, ground := Ground.data }], guard := none },
  { dst := some 14, op := Op.load 37 (Operand.tmp 13), type := 37, pos := "ref.go:74", after := #[{ on := 3, ground := Ground.data }], guard := none },
  { dst := some 15, op := Op.call { callee := Callee.builtin Builtin.len, args := #[Operand.tmp 14], argTypes := #[37] }, type := 3, pos := "ref.go:74", after := #[{ on := 4, ground := Ground.data }], guard := none },
  { dst := some 16, op := Op.binOp BinOp.lss 3 (Operand.tmp 10) (Operand.tmp 15) 3, type := 4, pos := "ref.go:74", after := #[{ on := 0, ground := Ground.data }, { on := 5, ground := Ground.data }], guard := none }]
def rDS4 : Array Oper := #[{ dst := some 17, op := Op.move (Operand.tmp 4), type := 3, pos := "ref.go:74", after := #[], guard := none },
  { dst := some 18, op := Op.binOp BinOp.add 3 (Operand.tmp 17) (Operand.const (Value.int IntKind.i64 1)) 3, type := 3, pos := "ref.go:74", after := #[{ on := 0, ground := Ground.data }], guard := none },
  { dst := some 4, op := Op.assign (Operand.tmp 18), type := 3, pos := "ref.go:74", after := #[{ on := 1, ground := Ground.data }, { on := 0, ground := Ground.phase }, { on := 1, ground := Ground.phase }], guard := none }]
def rDS5 : Array Oper := #[{ dst := some 19, op := Op.move (Operand.tmp 0), type := 23, pos := "ref.go:75", after := #[], guard := none },
  { dst := some 20, op := Op.nilCheck (Operand.tmp 19), type := 0, pos := "ref.go:75", after := #[{ on := 0, ground := Ground.data }], guard := none },
  { dst := some 21, op := Op.fieldAddr 42 (Operand.tmp 20) 3, type := 0, pos := "ref.go:75", after := #[{ on := 1, ground := Ground.data }], guard := none },
  { dst := some 22, op := Op.load 37 (Operand.tmp 21), type := 37, pos := "ref.go:75", after := #[{ on := 2, ground := Ground.data }], guard := none },
  { dst := some 23, op := Op.move (Operand.tmp 4), type := 3, pos := "ref.go:75", after := #[], guard := none },
  { dst := some 24, op := Op.indexAddr 37 (Operand.tmp 22) (Operand.tmp 23), type := 0, pos := "ref.go:75", after := #[{ on := 3, ground := Ground.data }, { on := 4, ground := Ground.data }], guard := none },
  { dst := some 25, op := Op.fieldAddr 71 (Operand.tmp 24) 0, type := 0, pos := "ref.go:75", after := #[{ on := 5, ground := Ground.data }], guard := none },
  { dst := some 26, op := Op.load 4 (Operand.tmp 25), type := 4, pos := "ref.go:75", after := #[{ on := 6, ground := Ground.data }], guard := none }]
def rDS6 : Array Oper := #[{ dst := some 27, op := Op.move (Operand.tmp 0), type := 23, pos := "ref.go:76", after := #[], guard := none },
  { dst := some 28, op := Op.nilCheck (Operand.tmp 27), type := 0, pos := "ref.go:76", after := #[{ on := 0, ground := Ground.data }], guard := none },
  { dst := some 29, op := Op.fieldAddr 42 (Operand.tmp 28) 3, type := 0, pos := "ref.go:76", after := #[{ on := 1, ground := Ground.data }], guard := none },
  { dst := some 30, op := Op.load 37 (Operand.tmp 29), type := 37, pos := "ref.go:76", after := #[{ on := 2, ground := Ground.data }], guard := none },
  { dst := some 31, op := Op.move (Operand.tmp 4), type := 3, pos := "ref.go:76", after := #[], guard := none },
  { dst := some 32, op := Op.indexAddr 37 (Operand.tmp 30) (Operand.tmp 31), type := 0, pos := "ref.go:76", after := #[{ on := 3, ground := Ground.data }, { on := 4, ground := Ground.data }], guard := none },
  { dst := some 33, op := Op.fieldAddr 71 (Operand.tmp 32) 1, type := 0, pos := "ref.go:76", after := #[{ on := 5, ground := Ground.data }], guard := none },
  { dst := some 34, op := Op.load 3 (Operand.tmp 33), type := 3, pos := "ref.go:76", after := #[{ on := 6, ground := Ground.data }], guard := none },
  { dst := some 3, op := Op.assign (Operand.tmp 34), type := 3, pos := "ref.go:76", after := #[{ on := 7, ground := Ground.data }, { on := 0, ground := Ground.phase }, { on := 1, ground := Ground.phase }, { on := 2, ground := Ground.phase }, { on := 3, ground := Ground.phase }, { on := 4, ground := Ground.phase }, { on := 5, ground := Ground.phase }, { on := 6, ground := Ground.phase }, { on := 7, ground := Ground.phase }], guard := none }]
def rDS7 : Array Oper := #[{ dst := some 35, op := Op.move (Operand.tmp 3), type := 3, pos := "ref.go:79", after := #[], guard := none },
  { dst := some 2, op := Op.assign (Operand.tmp 35), type := 3, pos := "ref.go:79", after := #[{ on := 0, ground := Ground.data }, { on := 0, ground := Ground.phase }], guard := none }]
def cDS1 : Code := (Code.seq (Code.seq (Code.region 3 rDS3 false) (Code.cond (Operand.tmp 16) Code.skip (Code.exit 0))) (Code.seq (Code.block 1 (Code.seq (Code.region 5 rDS5 false) (Code.cond (Operand.tmp 26) (Code.region 6 rDS6 false) Code.skip))) (Code.region 4 rDS4 false)))
def cDS : Code := (Code.seq (Code.region 0 rDS0 false) (Code.seq (Code.region 1 rDS1 false) (Code.seq (Code.seq (Code.region 2 rDS2 false) (Code.block 0 (Code.loop cDS1))) (Code.seq (Code.region 7 rDS7 false) Code.ret))))
set_option maxRecDepth 100000 in
set_option maxHeartbeats 1000000 in
theorem rsize_calls {c n dc : Nat} {da : Option Addr} (w : World) (k2 : w.cell? ⟨c, 2, none⟩ = some (.slice da n dc)) (k3 : w.cell? ⟨c, 3, none⟩ = some (.slice none 0 0)) :
    Calls Try.prog 19 #[.pointer (some ⟨c, 0, none⟩)] w fun e w' => e = .returned (.int .i64 (n : Int)) ∧ w' = w := by
  refine calls_abs (c := cDS) Try.func19 (by kernel_rfl) 36 rfl (by simp) (fun a0 hsz hd ha => ?_)
  have fa0_0 := Fe.refl a0
  unfold cDS
  refine wp_seq ?_
  refine wp_region_list ?_
  unfold rDS0
  refine fa0_0.move 2 (.int .i64 0) _ (Or.inr rfl) rfl (lb_ hsz) (wanted_none rfl) rfl (fun a0_1 fa0_1 => ?_)
  clear fa0_0
  refine wpList_nil ?_
  change Code.wp _ _ _ _ _
  refine wp_seq ?_
  refine wp_region_list ?_
  unfold rDS1
  refine fa0_1.move 5 (.pointer (some ⟨c, 0, none⟩)) _ (Or.inl rfl) rfl (lb_ hsz) (wanted_none rfl) ((fa0_1.at_ 0).trans (ha 0 _ rfl)) (fun a0_2 fa0_2 => ?_)
  clear fa0_1
  have r_a0_3 : (execOp a0_2.eval { dst := some 6, op := Op.nilCheck (Operand.tmp 5), type := 0, pos := "ref.go:73", after := #[{ on := 0, ground := Ground.data }], guard := none }).run Try.prog (w) = .ok (.value (.pointer (some ⟨c, 0, none⟩))) (w) := by
    have e5 := (show a0_2.eval (.tmp 5) = .pointer (some ⟨c, 0, none⟩) from (fa0_2.at_ 5))
    clear fa0_2 ha
    generalize a0_2.eval = ρ at *
    go_simp
  refine fa0_2.step 6 (.pointer (some ⟨c, 0, none⟩)) rfl (lb_ hsz) (wanted_none rfl) r_a0_3 (fun a0_3 fa0_3 => ?_)
  clear r_a0_3
  clear fa0_2
  have r_a0_4 : (execOp a0_3.eval { dst := some 7, op := Op.fieldAddr 42 (Operand.tmp 6) 2, type := 0, pos := "ref.go:73", after := #[{ on := 1, ground := Ground.data }], guard := none }).run Try.prog (w) = .ok (.value (.pointer (some ⟨c, 2, none⟩))) (w) := by
    have e6 := (show a0_3.eval (.tmp 6) = .pointer (some ⟨c, 0, none⟩) from (fa0_3.at_ 6))
    clear fa0_3 ha
    generalize a0_3.eval = ρ at *
    go_simp
  refine fa0_3.step 7 (.pointer (some ⟨c, 2, none⟩)) rfl (lb_ hsz) (wanted_none rfl) r_a0_4 (fun a0_4 fa0_4 => ?_)
  clear r_a0_4
  clear fa0_3
  have r_a0_5 : (execOp a0_4.eval { dst := some 8, op := Op.load 22 (Operand.tmp 7), type := 22, pos := "ref.go:73", after := #[{ on := 2, ground := Ground.data }], guard := none }).run Try.prog (w) = .ok (.value (.slice da n dc)) (w) := by
    have e7 := (show a0_4.eval (.tmp 7) = .pointer (some ⟨c, 2, none⟩) from (fa0_4.at_ 7))
    clear fa0_4 ha
    generalize a0_4.eval = ρ at *
    go_simp
  refine fa0_4.step 8 (.slice da n dc) rfl (lb_ hsz) (wanted_none rfl) r_a0_5 (fun a0_5 fa0_5 => ?_)
  clear r_a0_5
  clear fa0_4
  have r_a0_6 : (execOp a0_5.eval { dst := some 9, op := Op.call { callee := Callee.builtin Builtin.len, args := #[Operand.tmp 8], argTypes := #[22] }, type := 3, pos := "ref.go:73", after := #[{ on := 3, ground := Ground.data }], guard := none }).run Try.prog (w) = .ok (.value (.int .i64 (n : Int))) (w) := by
    have e8 := (show a0_5.eval (.tmp 8) = .slice da n dc from (fa0_5.at_ 8))
    clear fa0_5 ha
    generalize a0_5.eval = ρ at *
    go_simp
  refine fa0_5.step 9 (.int .i64 (n : Int)) rfl (lb_ hsz) (wanted_none rfl) r_a0_6 (fun a0_6 fa0_6 => ?_)
  clear r_a0_6
  clear fa0_5
  refine fa0_6.move 3 (.int .i64 (n : Int)) _ (Or.inr rfl) rfl (lb_ hsz) (wanted_none rfl) (fa0_6.at_ 9) (fun a0_7 fa0_7 => ?_)
  clear fa0_6
  refine wpList_nil ?_
  change Code.wp _ _ _ _ _
  refine wp_seq (wp_seq ?_)
  refine wp_region_list ?_
  unfold rDS2
  refine fa0_7.move 4 (.int .i64 0) _ (Or.inr rfl) rfl (lb_ hsz) (wanted_none rfl) rfl (fun a0_8 fa0_8 => ?_)
  clear fa0_7
  refine wpList_nil ?_
  change Code.wp _ _ _ _ _
  refine wp_block ?_
  have h3 := (show a0_8.eval (.tmp 3) = .int .i64 (n : Int) from (fa0_8.at_ 3))
  have h0 := (show a0_8.eval (.tmp 0) = .pointer (some ⟨c, 0, none⟩) from ((fa0_8.at_ 0).trans (ha 0 _ rfl)))
  have h4 := (show a0_8.eval (.tmp 4) = .int .i64 0 from (fa0_8.at_ 4))
  have zs := fa0_8.size.trans hsz
  have zd := fa0_8.defers.trans hd
  clear fa0_8
  generalize a0_8 = b0 at *
  refine wp_loop (fun a W => a = b0 ∧ W = w) (fun _ _ => 0) ⟨rfl, rfl⟩ ?_
  rintro a W ⟨rfl, rfl⟩
  unfold cDS1
  refine wp_seq (wp_seq ?_)
  have fa_0 := Fe.refl a
  refine wp_region_list ?_
  unfold rDS3
  refine fa_0.move 10 (.int .i64 0) _ (Or.inl rfl) rfl (lb_ zs) (wanted_none rfl) ((fa_0.at_ 4).trans h4) (fun a_1 fa_1 => ?_)
  clear fa_0
  refine fa_1.move 11 (.pointer (some ⟨c, 0, none⟩)) _ (Or.inl rfl) rfl (lb_ zs) (wanted_none rfl) ((fa_1.at_ 0).trans h0) (fun a_2 fa_2 => ?_)
  clear fa_1
  have r_a_3 : (execOp a_2.eval { dst := some 12, op := Op.nilCheck (Operand.tmp 11), type := 0, pos := "ref.go:74", after := #[{ on := 1, ground := Ground.data }], guard := none }).run Try.prog (W) = .ok (.value (.pointer (some ⟨c, 0, none⟩))) (W) := by
    have e11 := (show a_2.eval (.tmp 11) = .pointer (some ⟨c, 0, none⟩) from (fa_2.at_ 11))
    clear fa_2 ha h0 h3 h4
    generalize a_2.eval = ρ at *
    go_simp
  refine fa_2.step 12 (.pointer (some ⟨c, 0, none⟩)) rfl (lb_ zs) (wanted_none rfl) r_a_3 (fun a_3 fa_3 => ?_)
  clear r_a_3
  clear fa_2
  have r_a_4 : (execOp a_3.eval { dst := some 13, op := Op.fieldAddr 42 (Operand.tmp 12) 3, type := 0, pos := "ref.go:74", after := #[{ on := 2, ground := Ground.data }], guard := none }).run Try.prog (W) = .ok (.value (.pointer (some ⟨c, 3, none⟩))) (W) := by
    have e12 := (show a_3.eval (.tmp 12) = .pointer (some ⟨c, 0, none⟩) from (fa_3.at_ 12))
    clear fa_3 ha h0 h3 h4
    generalize a_3.eval = ρ at *
    go_simp
  refine fa_3.step 13 (.pointer (some ⟨c, 3, none⟩)) rfl (lb_ zs) (wanted_none rfl) r_a_4 (fun a_4 fa_4 => ?_)
  clear r_a_4
  clear fa_3
  have r_a_5 : (execOp a_4.eval { dst := some 14, op := Op.load 37 (Operand.tmp 13), type := 37, pos := "ref.go:74", after := #[{ on := 3, ground := Ground.data }], guard := none }).run Try.prog (W) = .ok (.value (.slice none 0 0)) (W) := by
    have e13 := (show a_4.eval (.tmp 13) = .pointer (some ⟨c, 3, none⟩) from (fa_4.at_ 13))
    clear fa_4 ha h0 h3 h4
    generalize a_4.eval = ρ at *
    go_simp
  refine fa_4.step 14 (.slice none 0 0) rfl (lb_ zs) (wanted_none rfl) r_a_5 (fun a_5 fa_5 => ?_)
  clear r_a_5
  clear fa_4
  have r_a_6 : (execOp a_5.eval { dst := some 15, op := Op.call { callee := Callee.builtin Builtin.len, args := #[Operand.tmp 14], argTypes := #[37] }, type := 3, pos := "ref.go:74", after := #[{ on := 4, ground := Ground.data }], guard := none }).run Try.prog (W) = .ok (.value (.int .i64 0)) (W) := by
    have e14 := (show a_5.eval (.tmp 14) = .slice none 0 0 from (fa_5.at_ 14))
    clear fa_5 ha h0 h3 h4
    generalize a_5.eval = ρ at *
    go_simp
  refine fa_5.step 15 (.int .i64 0) rfl (lb_ zs) (wanted_none rfl) r_a_6 (fun a_6 fa_6 => ?_)
  clear r_a_6
  clear fa_5
  have r_a_7 : (execOp a_6.eval { dst := some 16, op := Op.binOp BinOp.lss 3 (Operand.tmp 10) (Operand.tmp 15) 3, type := 4, pos := "ref.go:74", after := #[{ on := 0, ground := Ground.data }, { on := 5, ground := Ground.data }], guard := none }).run Try.prog (W) = .ok (.value (.bool false)) (W) := by
    have e10 := (show a_6.eval (.tmp 10) = .int .i64 0 from (fa_6.at_ 10))
    have e15 := (show a_6.eval (.tmp 15) = .int .i64 0 from (fa_6.at_ 15))
    clear fa_6 ha h0 h3 h4
    generalize a_6.eval = ρ at *
    go_simp
  refine fa_6.step 16 (.bool false) rfl (lb_ zs) (wanted_none rfl) r_a_7 (fun a_7 fa_7 => ?_)
  clear r_a_7
  clear fa_6
  refine wpList_nil ?_
  change Code.wp _ _ _ _ _
  refine wp_cond_false (show a_7.eval (.tmp 16) = .bool false from (fa_7.at_ 16)) (wp_exit ?_)
  simp only [Exit.then, Exit.inBlock, ↓reduceIte]
  refine wp_seq ?_
  refine wp_region_list ?_
  unfold rDS7
  refine fa_7.move 35 (.int .i64 (n : Int)) _ (Or.inl rfl) rfl (lb_ zs) (wanted_none rfl) ((fa_7.at_ 3).trans h3) (fun a_8 fa_8 => ?_)
  clear fa_7
  refine fa_8.move 2 (.int .i64 (n : Int)) _ (Or.inr rfl) rfl (lb_ zs) (wanted_none rfl) (fa_8.at_ 35) (fun a_9 fa_9 => ?_)
  clear fa_8
  refine wpList_nil ?_
  change Code.wp _ _ _ _ _
  refine wp_ret ?_
  exact ret_abs rfl (fa_9.defers.trans zd) (show a_9.eval (.tmp 2) = .int .i64 (n : Int) from (fa_9.at_ 2)) ⟨rfl, rfl⟩
end Go.Proofs.Ytljlkcmjbjnihaa
