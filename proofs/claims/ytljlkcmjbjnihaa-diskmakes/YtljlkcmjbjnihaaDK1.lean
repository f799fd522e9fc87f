/- disk: From of any image, New of any numbers. -/
import Derived.Test.YtljlkcmjbjnihaaOV
import Derived.Deep.DeepMust
namespace Go.Proofs.Ytljlkcmjbjnihaa
open Go.RowKit

set_option maxRecDepth 100000 in
theorem pageSize_no {n : Int} (w : World) (h : ¬ (n = 1024 ∨ n = 2048 ∨ n = 4096 ∨ n = 8192)) :
    Calls Try.prog 12 #[.int .i64 n] w fun e w' => e = .returned (.bool false) ∧ w' = w := by
  have n1 : ¬ n = 1024 := fun e => h (Or.inl e)
  have n2 : ¬ n = 2048 := fun e => h (Or.inr (Or.inl e))
  have n3 : ¬ n = 4096 := fun e => h (Or.inr (Or.inr (Or.inl e)))
  have n4 : ¬ n = 8192 := fun e => h (Or.inr (Or.inr (Or.inr e)))
  clear h
  go_enter Try.func12, Try.ntmps12
  go_wp2_with fail
  go_ret
  exact ⟨by show Ending.returned (.bool (n == 1024 || n == 2048 || n == 4096 || n == 8192)) = _; simp [n1, n2, n3, n4], rfl⟩
/-- The first place at which a test holds. -/
def firstAtS (f : ByteArray → Bool) (l : List ByteArray) : Int := match l.findIdx? f with
  | some k => (k : Int)
  | none => -1
theorem firstS_hit {f : ByteArray → Bool} {l : List ByteArray} {k : Nat} {y : ByteArray} (h : ∀ j x, j < k → l[j]? = some x → f x = false) (hy : l[k]? = some y) (hf : f y = true) : firstAtS f l = (k : Int) := by
  obtain ⟨hl, he⟩ := List.getElem?_eq_some_iff.1 hy
  have : l.findIdx? f = some k := by
    rw [List.findIdx?_eq_some_iff_getElem]
    refine ⟨hl, by rw [he]; exact hf, fun j hj => ?_⟩
    rw [h j l[j] hj (List.getElem?_eq_getElem _)]; simp
  unfold firstAtS
  rw [this]
theorem firstS_none {f : ByteArray → Bool} {l : List ByteArray} (h : ∀ j x, j < l.length → l[j]? = some x → f x = false) : firstAtS f l = -1 := by
  have : l.findIdx? f = none := by
    rw [List.findIdx?_eq_none_iff]
    intro x hx
    obtain ⟨j, hj, rfl⟩ := List.getElem_of_mem hx
    exact h j _ hj (List.getElem?_eq_getElem hj)
  unfold firstAtS
  rw [this]
theorem firstS_any (f : ByteArray → Bool) (l : List ByteArray) : decide (0 ≤ firstAtS f l) = l.any f := by
  unfold firstAtS
  cases h : l.findIdx? f with
  | none =>
    rw [List.findIdx?_eq_none_iff] at h
    have : l.any f = false := by
      rw [List.any_eq_false]
      intro x hx
      rw [h x hx]
      decide
    rw [this]
    rfl
  | some k =>
    obtain ⟨hk, hf, _⟩ := List.findIdx?_eq_some_iff_getElem.1 h
    have : l.any f = true := List.any_eq_true.2 ⟨_, List.getElem_mem hk, hf⟩
    rw [this]
    exact decide_eq_true (by show (0 : Int) ≤ (k : Int); omega)
/-- Is a text of another length? -/
def sizeNo (pg : Int) (s : ByteArray) : Bool := !decide ((s.size : Int) = pg)
set_option maxRecDepth 100000 in
theorem from1_calls {fb : Nat} {pg : Int} (x : ByteArray) (w : World) (hb : w.cell? ⟨fb, 0, none⟩ = some (.int .i64 pg)) :
    Calls Try.prog 13 #[.string x, .pointer (some ⟨fb, 0, none⟩)] w fun e w' => e = .returned (.bool (sizeNo pg x)) ∧ w' = w := by
  by_cases h : (x.size : Int) = pg
  · have hs : sizeNo pg x = false := by unfold sizeNo; rw [decide_eq_true h]; rfl
    rw [hs]
    subst h
    go_enter Try.func13, Try.ntmps13
    go_wp2_with fail
    go_ret
    exact ⟨rfl, rfl⟩
  · have hs : sizeNo pg x = true := by unfold sizeNo; rw [decide_eq_false h]; rfl
    rw [hs]
    go_enter Try.func13, Try.ntmps13
    go_wp2_with fail
    go_ret
    exact ⟨by show Ending.returned (.bool ((x.size : Int) != pg)) = _; simp [h], rfl⟩
set_option maxRecDepth 100000 in
set_option maxHeartbeats 1000000 in
theorem index_size {pg : Int} {pa : Option Addr} {pb po cp fb : Nat} {ps : List ByteArray} (w : World) (hr : TRow w pa pb po ps) (hn : ps.length ≤ 4611686018427387904) (hb : w.cell? ⟨fb, 0, none⟩ = some (.int .i64 pg)) :
    Calls Try.prog 34 #[.slice pa ps.length cp, .func (.func 13) #[] #[.pointer (some ⟨fb, 0, none⟩)]] w fun e w' => e = .returned (.int .i64 (firstAtS (sizeNo pg) ps)) ∧ Same w w' := by
  have HR : Hid (TRow w pa pb po ps) := hr
  have HB : Hid (w.cell? ⟨fb, 0, none⟩ = some (.int .i64 pg)) := hb
  obtain ⟨n, hnn⟩ : ∃ n, n = ps.length := ⟨_, rfl⟩
  rw [← hnn] at hn ⊢
  have HN : Hid (n = ps.length) := hnn
  clear hr hnn hb
  go_enter Try.func34, Try.ntmps34
  go_wp2_with fail
  go_loopg [8] n (fun g iv wr => ∃ (k : Nat), iv = .int .i64 (k : Int) ∧ k ≤ n ∧ g = n - k ∧ Hid (∀ j x, j < k → ps[j]? = some x → sizeNo pg x = false) ∧ Same w wr)
  case atStart => exact ⟨0, rfl, by omega, rfl, fun j x hj => by omega, Fr.refl _ w⟩
  case round =>
    obtain ⟨k, rfl, hk, hg, HI, sr⟩ := hrel
    by_cases hgo : k < n
    · obtain ⟨x, hx⟩ : ∃ x, ps[k]? = some x := ⟨_, List.getElem?_eq_getElem (by rw [← HN.out]; exact hgo)⟩
      have hc0 := (HR.out.same sr).cells k x hx
      obtain ⟨hpa, hlt⟩ := (HR.out.same sr).place (by intro e; rw [e] at hx; simp at hx)
      subst hpa
      have HX : Hid (ps[k]? = some x) := hx
      clear hx
      go_wp2_with fail
      refine (from1_calls (pg := pg) x _ (sr.keep HB.out)).mono ?_
      rintro e W1 ⟨rfl, hw1⟩
      subst hw1
      obtain ⟨b, hb⟩ : ∃ b, sizeNo pg x = b := ⟨_, rfl⟩
      rw [hb]
      cases b
      · have HI2 : Hid (∀ j x, j < k + 1 → ps[j]? = some x → sizeNo pg x = false) := fun j y hj hy => by
          by_cases e : j = k
          · rw [e, HX.out] at hy; rw [← Option.some.inj hy]; exact hb
          · exact HI.out j y (by omega) hy
        clear HI hb
        go_wp2_with fail
        go_roundg (n - (k + 1))
        case measure => omega
        case rel => exact ⟨k + 1, by go_num, by omega, rfl, HI2, sr⟩
      · have hr : Hid (firstAtS (sizeNo pg) ps = (k : Int)) := firstS_hit HI.out HX.out hb
        clear HI hb
        go_wp2_with fail
        go_ret
        exact ⟨by rw [hr.out]; rfl, sr⟩
    · obtain rfl : k = n := by omega
      have hr : Hid (firstAtS (sizeNo pg) ps = -1) := firstS_none (fun j x hj hx => HI.out j x (by rw [HN.out]; exact hj) hx)
      clear HI
      go_wp2_with fail
      go_ret
      exact ⟨by rw [hr.out]; rfl, sr⟩
set_option maxRecDepth 100000 in
theorem contains_size {pg : Int} {pa : Option Addr} {pb po cp fb : Nat} {ps : List ByteArray} (w : World) (hr : TRow w pa pb po ps) (hn : ps.length ≤ 4611686018427387904) (hb : w.cell? ⟨fb, 0, none⟩ = some (.int .i64 pg)) :
    Calls Try.prog 14 #[.slice pa ps.length cp, .func (.func 13) #[] #[.pointer (some ⟨fb, 0, none⟩)]] w fun e w' => e = .returned (.bool (ps.any (sizeNo pg))) ∧ Same w w' := by
  have HI : Hid (Calls Try.prog 34 #[.slice pa ps.length cp, .func (.func 13) #[] #[.pointer (some ⟨fb, 0, none⟩)]] w fun e w' => e = .returned (.int .i64 (firstAtS (sizeNo pg) ps)) ∧ Same w w') := index_size w hr hn hb
  have hany := firstS_any (sizeNo pg) ps
  generalize firstAtS (sizeNo pg) ps = F at *
  generalize ps.any (sizeNo pg) = b at *
  generalize ps.length = n at *
  clear hr hb
  go_enter Try.func14, Try.ntmps14
  go_wp2_with fail
  refine HI.out.mono ?_
  rintro e W1 ⟨rfl, s1⟩
  go_wp2_with fail
  go_ret
  exact ⟨rfl, s1⟩

set_option maxRecDepth 100000 in
set_option maxHeartbeats 1000000 in
theorem from_page {pg mo : Int} {ia : Option Addr} {ic : Nat} {L : List ByteArray} (w : World) (hpg : ¬ (pg = 1024 ∨ pg = 2048 ∨ pg = 4096 ∨ pg = 8192)) :
    Calls Try.prog 5 #[.int .i64 pg, .int .i64 mo, .slice ia L.length ic] w fun e w' => e = .returned (.tuple #[.pointer none, .int .i64 2]) ∧ Same w w' := by
  refine calls_abs (c := cOV) Try.func5 (by kernel_rfl) 39 rfl (by simp) (fun a0 hsz hd ha => ?_)
  have fa0_0 := Fe.refl a0
  unfold cOV
  refine wp_seq ?_
  refine wp_region_list ?_
  unfold rOV0
  have r_a0_1 : (execOp a0.eval { dst := some 3, op := Op.box 3 (Operand.tmp 0), type := 0, pos := "disk.go:27", after := #[], guard := none }).run Try.prog (w) = .ok (.value (.pointer (some ⟨w.heap.size, 0, none⟩))) (w.alloc (.cells #[.int .i64 pg] 3)) := by
    have e0 := (show a0.eval (.tmp 0) = .int .i64 pg from ((fa0_0.at_ 0).trans (ha 0 _ rfl)))
    clear fa0_0 ha hpg
    generalize a0.eval = ρ at *
    go_simp
  refine fa0_0.stepW 3 (.pointer (some ⟨w.heap.size, 0, none⟩)) rfl (lb_ hsz) (wanted_none rfl) r_a0_1 (fun a0_1 fa0_1 => ?_)
  clear r_a0_1
  obtain ⟨V, hV⟩ : ∃ V, V = w.alloc (.cells #[.int .i64 pg] 3) := ⟨_, rfl⟩
  rw [← hV]
  have sV : Same w V := by rw [hV]; exact (Fr.refl _ w).alloc _
  have hVr : V.heap[w.heap.size]? = some (.cells #[.int .i64 pg] 3 (0, 0)) := by rw [hV]; exact heap_alloc_new w _
  clear hV
  have k0 : V.cell? ⟨w.heap.size, 0, none⟩ = some (.int .i64 pg) := (cell_of_row _ _ _ _ _ _ hVr).trans rfl
  clear fa0_0
  refine fa0_1.move 6 (.pointer none) _ (Or.inr rfl) rfl (lb_ hsz) (wanted_none rfl) rfl (fun a0_2 fa0_2 => ?_)
  clear fa0_1
  refine fa0_2.move 7 (.int .i64 0) _ (Or.inr rfl) rfl (lb_ hsz) (wanted_none rfl) rfl (fun a0_3 fa0_3 => ?_)
  clear fa0_2
  refine wpList_nil ?_
  change Code.wp _ _ _ _ _
  refine wp_seq (wp_seq ?_)
  refine wp_region_list ?_
  unfold rOV1
  have r_a0_4 : (execOp a0_3.eval { dst := some 10, op := Op.load 3 (Operand.tmp 3), type := 3, pos := "disk.go:28", after := #[], guard := none }).run Try.prog (V) = .ok (.value (.int .i64 pg)) (V) := by
    have e3 := (show a0_3.eval (.tmp 3) = .pointer (some ⟨w.heap.size, 0, none⟩) from (fa0_3.at_ 3))
    clear fa0_3 ha hpg
    generalize a0_3.eval = ρ at *
    go_simp
  refine fa0_3.step 10 (.int .i64 pg) rfl (lb_ hsz) (wanted_none rfl) r_a0_4 (fun a0_4 fa0_4 => ?_)
  clear r_a0_4
  clear fa0_3
  have r_a0_5 : (execOp a0_4.eval { dst := some 11, op := Op.call { callee := Callee.value (Operand.func 12), args := #[Operand.tmp 10], argTypes := #[3] }, type := 4, pos := "disk.go:28", after := #[{ on := 0, ground := Ground.data }], guard := none }).run Try.prog (V) = .ok (.enter 12 #[.int .i64 pg]) (V) := by
    have kf : ∀ f, a0_4.eval (.func f) = .func (.func f) #[] #[] := fun _ => rfl
    have e10 := (show a0_4.eval (.tmp 10) = .int .i64 pg from (fa0_4.at_ 10))
    clear fa0_4 ha hpg
    generalize a0_4.eval = ρ at *
    go_simp
  refine fa0_4.call 11 rfl (lb_ hsz) (wanted_none rfl) r_a0_5 (pageSize_no V hpg) (fun e w1 hR => ?_)
  obtain ⟨rfl, hw1⟩ := hR
  clear r_a0_5
  have hw1 := hw1.symm
  subst hw1
  refine ⟨_, rfl, fun a0_5 fa0_5 => ?_⟩
  clear fa0_4
  have r_a0_6 : (execOp a0_5.eval { dst := some 12, op := Op.unOp UnOp.not 4 (Operand.tmp 11), type := 4, pos := "disk.go:28", after := #[{ on := 1, ground := Ground.data }], guard := none }).run Try.prog (V) = .ok (.value (.bool true)) (V) := by
    have e11 := (show a0_5.eval (.tmp 11) = .bool false from (fa0_5.at_ 11))
    clear fa0_5 ha hpg
    generalize a0_5.eval = ρ at *
    go_simp
  refine fa0_5.step 12 (.bool true) rfl (lb_ hsz) (wanted_none rfl) r_a0_6 (fun a0_6 fa0_6 => ?_)
  clear r_a0_6
  clear fa0_5
  refine fa0_6.move 13 (.bool true) _ (Or.inl rfl) rfl (lb_ hsz) (wanted_none rfl) (fa0_6.at_ 12) (fun a0_7 fa0_7 => ?_)
  clear fa0_6
  refine fa0_7.skip 14 rfl (lb_ hsz) ((wanted_at (t := 13) (c := true) (b := false) rfl rfl rfl (lb_ (fa0_7.size.trans hsz)) (fa0_7.at_ 13)).trans (by rfl)) (fun a0_8 fa0_8 => ?_)
  clear fa0_7
  refine fa0_8.skip 15 rfl (lb_ hsz) ((wanted_at (t := 13) (c := true) (b := false) rfl rfl rfl (lb_ (fa0_8.size.trans hsz)) (fa0_8.at_ 13)).trans (by rfl)) (fun a0_9 fa0_9 => ?_)
  clear fa0_8
  have r_a0_10 : (execOp a0_9.eval { dst := some 16, op := Op.pick (Operand.tmp 13) (Operand.const (Value.bool true)) (Operand.tmp 15), type := 4, pos := "disk.go:28", after := #[{ on := 3, ground := Ground.data }, { on := 5, ground := Ground.data }], guard := none }).run Try.prog (V) = .ok (.value (.bool true)) (V) := by
    have kc : ∀ v, a0_9.eval (.const v) = v := fun _ => rfl
    have e13 := (show a0_9.eval (.tmp 13) = .bool true from (fa0_9.at_ 13))
    have e15 := (show a0_9.eval (.tmp 15) = undef from (fa0_9.at_ 15))
    clear fa0_9 ha hpg
    generalize a0_9.eval = ρ at *
    go_simp
  refine fa0_9.step 16 (.bool true) rfl (lb_ hsz) (wanted_none rfl) r_a0_10 (fun a0_10 fa0_10 => ?_)
  clear r_a0_10
  clear fa0_9
  refine fa0_10.move 17 (.bool true) _ (Or.inl rfl) rfl (lb_ hsz) (wanted_none rfl) (fa0_10.at_ 16) (fun a0_11 fa0_11 => ?_)
  clear fa0_10
  refine fa0_11.skip 18 rfl (lb_ hsz) ((wanted_at (t := 17) (c := true) (b := false) rfl rfl rfl (lb_ (fa0_11.size.trans hsz)) (fa0_11.at_ 17)).trans (by rfl)) (fun a0_12 fa0_12 => ?_)
  clear fa0_11
  refine fa0_12.skip 19 rfl (lb_ hsz) ((wanted_at (t := 17) (c := true) (b := false) rfl rfl rfl (lb_ (fa0_12.size.trans hsz)) (fa0_12.at_ 17)).trans (by rfl)) (fun a0_13 fa0_13 => ?_)
  clear fa0_12
  have r_a0_14 : (execOp a0_13.eval { dst := some 20, op := Op.pick (Operand.tmp 17) (Operand.const (Value.bool true)) (Operand.tmp 19), type := 4, pos := "disk.go:28", after := #[{ on := 7, ground := Ground.data }, { on := 9, ground := Ground.data }], guard := none }).run Try.prog (V) = .ok (.value (.bool true)) (V) := by
    have kc : ∀ v, a0_13.eval (.const v) = v := fun _ => rfl
    have e17 := (show a0_13.eval (.tmp 17) = .bool true from (fa0_13.at_ 17))
    have e19 := (show a0_13.eval (.tmp 19) = undef from (fa0_13.at_ 19))
    clear fa0_13 ha hpg
    generalize a0_13.eval = ρ at *
    go_simp
  refine fa0_13.step 20 (.bool true) rfl (lb_ hsz) (wanted_none rfl) r_a0_14 (fun a0_14 fa0_14 => ?_)
  clear r_a0_14
  clear fa0_13
  refine wpList_nil ?_
  change Code.wp _ _ _ _ _
  refine wp_cond_true (show a0_14.eval (.tmp 20) = .bool true from (fa0_14.at_ 20)) ?_
  change Code.wp _ _ _ _ _
  refine wp_seq ?_
  refine wp_region_list ?_
  unfold rOV2
  refine fa0_14.move 6 (.pointer none) _ (Or.inr rfl) rfl (lb_ hsz) (wanted_none rfl) rfl (fun a0_15 fa0_15 => ?_)
  clear fa0_14
  refine fa0_15.move 7 (.int .i64 2) _ (Or.inr rfl) rfl (lb_ hsz) (wanted_none rfl) rfl (fun a0_16 fa0_16 => ?_)
  clear fa0_15
  refine wpList_nil ?_
  change Code.wp _ _ _ _ _
  refine wp_ret ?_
  simp only [Exit.then]
  refine bodyPost_ret (results_tmp2 rfl _ _ _) (fa0_16.defers.trans hd) ?_
  refine ⟨congrArg Ending.returned ?_, sV⟩
  show Value.tuple #[a0_16.eval (.tmp 6), a0_16.eval (.tmp 7)] = _
  rw [(show a0_16.eval (.tmp 6) = .pointer none from (fa0_16.at_ 6)), (show a0_16.eval (.tmp 7) = .int .i64 2 from (fa0_16.at_ 7))]
set_option maxRecDepth 100000 in
set_option maxHeartbeats 1000000 in
theorem from_least {pg mo : Int} {ia : Option Addr} {ic : Nat} {L : List ByteArray} (w : World) (hpg : pg = 1024 ∨ pg = 2048 ∨ pg = 4096 ∨ pg = 8192) (m1 : mo < 1) :
    Calls Try.prog 5 #[.int .i64 pg, .int .i64 mo, .slice ia L.length ic] w fun e w' => e = .returned (.tuple #[.pointer none, .int .i64 2]) ∧ Same w w' := by
  refine calls_abs (c := cOV) Try.func5 (by kernel_rfl) 39 rfl (by simp) (fun a0 hsz hd ha => ?_)
  have fa0_0 := Fe.refl a0
  unfold cOV
  refine wp_seq ?_
  refine wp_region_list ?_
  unfold rOV0
  have r_a0_1 : (execOp a0.eval { dst := some 3, op := Op.box 3 (Operand.tmp 0), type := 0, pos := "disk.go:27", after := #[], guard := none }).run Try.prog (w) = .ok (.value (.pointer (some ⟨w.heap.size, 0, none⟩))) (w.alloc (.cells #[.int .i64 pg] 3)) := by
    have e0 := (show a0.eval (.tmp 0) = .int .i64 pg from ((fa0_0.at_ 0).trans (ha 0 _ rfl)))
    clear fa0_0 ha hpg
    generalize a0.eval = ρ at *
    go_simp
  refine fa0_0.stepW 3 (.pointer (some ⟨w.heap.size, 0, none⟩)) rfl (lb_ hsz) (wanted_none rfl) r_a0_1 (fun a0_1 fa0_1 => ?_)
  clear r_a0_1
  obtain ⟨V, hV⟩ : ∃ V, V = w.alloc (.cells #[.int .i64 pg] 3) := ⟨_, rfl⟩
  rw [← hV]
  have sV : Same w V := by rw [hV]; exact (Fr.refl _ w).alloc _
  have hVr : V.heap[w.heap.size]? = some (.cells #[.int .i64 pg] 3 (0, 0)) := by rw [hV]; exact heap_alloc_new w _
  clear hV
  have k0 : V.cell? ⟨w.heap.size, 0, none⟩ = some (.int .i64 pg) := (cell_of_row _ _ _ _ _ _ hVr).trans rfl
  clear fa0_0
  refine fa0_1.move 6 (.pointer none) _ (Or.inr rfl) rfl (lb_ hsz) (wanted_none rfl) rfl (fun a0_2 fa0_2 => ?_)
  clear fa0_1
  refine fa0_2.move 7 (.int .i64 0) _ (Or.inr rfl) rfl (lb_ hsz) (wanted_none rfl) rfl (fun a0_3 fa0_3 => ?_)
  clear fa0_2
  refine wpList_nil ?_
  change Code.wp _ _ _ _ _
  refine wp_seq (wp_seq ?_)
  refine wp_region_list ?_
  unfold rOV1
  have r_a0_4 : (execOp a0_3.eval { dst := some 10, op := Op.load 3 (Operand.tmp 3), type := 3, pos := "disk.go:28", after := #[], guard := none }).run Try.prog (V) = .ok (.value (.int .i64 pg)) (V) := by
    have e3 := (show a0_3.eval (.tmp 3) = .pointer (some ⟨w.heap.size, 0, none⟩) from (fa0_3.at_ 3))
    clear fa0_3 ha hpg
    generalize a0_3.eval = ρ at *
    go_simp
  refine fa0_3.step 10 (.int .i64 pg) rfl (lb_ hsz) (wanted_none rfl) r_a0_4 (fun a0_4 fa0_4 => ?_)
  clear r_a0_4
  clear fa0_3
  have r_a0_5 : (execOp a0_4.eval { dst := some 11, op := Op.call { callee := Callee.value (Operand.func 12), args := #[Operand.tmp 10], argTypes := #[3] }, type := 4, pos := "disk.go:28", after := #[{ on := 0, ground := Ground.data }], guard := none }).run Try.prog (V) = .ok (.enter 12 #[.int .i64 pg]) (V) := by
    have kf : ∀ f, a0_4.eval (.func f) = .func (.func f) #[] #[] := fun _ => rfl
    have e10 := (show a0_4.eval (.tmp 10) = .int .i64 pg from (fa0_4.at_ 10))
    clear fa0_4 ha hpg
    generalize a0_4.eval = ρ at *
    go_simp
  refine fa0_4.call 11 rfl (lb_ hsz) (wanted_none rfl) r_a0_5 (pageSize_calls V hpg) (fun e w1 hR => ?_)
  obtain ⟨rfl, hw1⟩ := hR
  clear r_a0_5
  have hw1 := hw1.symm
  subst hw1
  refine ⟨_, rfl, fun a0_5 fa0_5 => ?_⟩
  clear fa0_4
  have r_a0_6 : (execOp a0_5.eval { dst := some 12, op := Op.unOp UnOp.not 4 (Operand.tmp 11), type := 4, pos := "disk.go:28", after := #[{ on := 1, ground := Ground.data }], guard := none }).run Try.prog (V) = .ok (.value (.bool false)) (V) := by
    have e11 := (show a0_5.eval (.tmp 11) = .bool true from (fa0_5.at_ 11))
    clear fa0_5 ha hpg
    generalize a0_5.eval = ρ at *
    go_simp
  refine fa0_5.step 12 (.bool false) rfl (lb_ hsz) (wanted_none rfl) r_a0_6 (fun a0_6 fa0_6 => ?_)
  clear r_a0_6
  clear fa0_5
  refine fa0_6.move 13 (.bool false) _ (Or.inl rfl) rfl (lb_ hsz) (wanted_none rfl) (fa0_6.at_ 12) (fun a0_7 fa0_7 => ?_)
  clear fa0_6
  refine fa0_7.move 14 (.int .i64 mo) _ (Or.inl rfl) rfl (lb_ hsz) ((wanted_at (t := 13) (c := false) (b := false) rfl rfl rfl (lb_ (fa0_7.size.trans hsz)) (fa0_7.at_ 13)).trans (by rfl)) ((fa0_7.at_ 1).trans (ha 1 _ rfl)) (fun a0_8 fa0_8 => ?_)
  clear fa0_7
  have r_a0_9 : (execOp a0_8.eval { dst := some 15, op := Op.binOp BinOp.lss 3 (Operand.tmp 14) (Operand.const (Value.int IntKind.i64 1)) 3, type := 4, pos := "disk.go:28", after := #[{ on := 4, ground := Ground.data }, { on := 3, ground := Ground.guard }], guard := some (3, false) }).run Try.prog (V) = .ok (.value (.bool true)) (V) := by
    have kc : ∀ v, a0_8.eval (.const v) = v := fun _ => rfl
    have e14 := (show a0_8.eval (.tmp 14) = .int .i64 mo from (fa0_8.at_ 14))
    clear fa0_8 ha hpg
    generalize a0_8.eval = ρ at *
    go_simp
  refine fa0_8.step 15 (.bool true) rfl (lb_ hsz) ((wanted_at (t := 13) (c := false) (b := false) rfl rfl rfl (lb_ (fa0_8.size.trans hsz)) (fa0_8.at_ 13)).trans (by rfl)) r_a0_9 (fun a0_9 fa0_9 => ?_)
  clear r_a0_9
  clear fa0_8
  have r_a0_10 : (execOp a0_9.eval { dst := some 16, op := Op.pick (Operand.tmp 13) (Operand.const (Value.bool true)) (Operand.tmp 15), type := 4, pos := "disk.go:28", after := #[{ on := 3, ground := Ground.data }, { on := 5, ground := Ground.data }], guard := none }).run Try.prog (V) = .ok (.value (.bool true)) (V) := by
    have kc : ∀ v, a0_9.eval (.const v) = v := fun _ => rfl
    have e13 := (show a0_9.eval (.tmp 13) = .bool false from (fa0_9.at_ 13))
    have e15 := (show a0_9.eval (.tmp 15) = .bool true from (fa0_9.at_ 15))
    clear fa0_9 ha hpg
    generalize a0_9.eval = ρ at *
    go_simp
  refine fa0_9.step 16 (.bool true) rfl (lb_ hsz) (wanted_none rfl) r_a0_10 (fun a0_10 fa0_10 => ?_)
  clear r_a0_10
  clear fa0_9
  refine fa0_10.move 17 (.bool true) _ (Or.inl rfl) rfl (lb_ hsz) (wanted_none rfl) (fa0_10.at_ 16) (fun a0_11 fa0_11 => ?_)
  clear fa0_10
  refine fa0_11.skip 18 rfl (lb_ hsz) ((wanted_at (t := 17) (c := true) (b := false) rfl rfl rfl (lb_ (fa0_11.size.trans hsz)) (fa0_11.at_ 17)).trans (by rfl)) (fun a0_12 fa0_12 => ?_)
  clear fa0_11
  refine fa0_12.skip 19 rfl (lb_ hsz) ((wanted_at (t := 17) (c := true) (b := false) rfl rfl rfl (lb_ (fa0_12.size.trans hsz)) (fa0_12.at_ 17)).trans (by rfl)) (fun a0_13 fa0_13 => ?_)
  clear fa0_12
  have r_a0_14 : (execOp a0_13.eval { dst := some 20, op := Op.pick (Operand.tmp 17) (Operand.const (Value.bool true)) (Operand.tmp 19), type := 4, pos := "disk.go:28", after := #[{ on := 7, ground := Ground.data }, { on := 9, ground := Ground.data }], guard := none }).run Try.prog (V) = .ok (.value (.bool true)) (V) := by
    have kc : ∀ v, a0_13.eval (.const v) = v := fun _ => rfl
    have e17 := (show a0_13.eval (.tmp 17) = .bool true from (fa0_13.at_ 17))
    have e19 := (show a0_13.eval (.tmp 19) = undef from (fa0_13.at_ 19))
    clear fa0_13 ha hpg
    generalize a0_13.eval = ρ at *
    go_simp
  refine fa0_13.step 20 (.bool true) rfl (lb_ hsz) (wanted_none rfl) r_a0_14 (fun a0_14 fa0_14 => ?_)
  clear r_a0_14
  clear fa0_13
  refine wpList_nil ?_
  change Code.wp _ _ _ _ _
  refine wp_cond_true (show a0_14.eval (.tmp 20) = .bool true from (fa0_14.at_ 20)) ?_
  change Code.wp _ _ _ _ _
  refine wp_seq ?_
  refine wp_region_list ?_
  unfold rOV2
  refine fa0_14.move 6 (.pointer none) _ (Or.inr rfl) rfl (lb_ hsz) (wanted_none rfl) rfl (fun a0_15 fa0_15 => ?_)
  clear fa0_14
  refine fa0_15.move 7 (.int .i64 2) _ (Or.inr rfl) rfl (lb_ hsz) (wanted_none rfl) rfl (fun a0_16 fa0_16 => ?_)
  clear fa0_15
  refine wpList_nil ?_
  change Code.wp _ _ _ _ _
  refine wp_ret ?_
  simp only [Exit.then]
  refine bodyPost_ret (results_tmp2 rfl _ _ _) (fa0_16.defers.trans hd) ?_
  refine ⟨congrArg Ending.returned ?_, sV⟩
  show Value.tuple #[a0_16.eval (.tmp 6), a0_16.eval (.tmp 7)] = _
  rw [(show a0_16.eval (.tmp 6) = .pointer none from (fa0_16.at_ 6)), (show a0_16.eval (.tmp 7) = .int .i64 2 from (fa0_16.at_ 7))]
set_option maxRecDepth 100000 in
set_option maxHeartbeats 1000000 in
theorem from_most {pg mo : Int} {ia : Option Addr} {ic : Nat} {L : List ByteArray} (w : World) (hpg : pg = 1024 ∨ pg = 2048 ∨ pg = 4096 ∨ pg = 8192) (m2 : 65536 < mo) :
    Calls Try.prog 5 #[.int .i64 pg, .int .i64 mo, .slice ia L.length ic] w fun e w' => e = .returned (.tuple #[.pointer none, .int .i64 2]) ∧ Same w w' := by
  have m1 : ¬ mo < 1 := by omega
  refine calls_abs (c := cOV) Try.func5 (by kernel_rfl) 39 rfl (by simp) (fun a0 hsz hd ha => ?_)
  have fa0_0 := Fe.refl a0
  unfold cOV
  refine wp_seq ?_
  refine wp_region_list ?_
  unfold rOV0
  have r_a0_1 : (execOp a0.eval { dst := some 3, op := Op.box 3 (Operand.tmp 0), type := 0, pos := "disk.go:27", after := #[], guard := none }).run Try.prog (w) = .ok (.value (.pointer (some ⟨w.heap.size, 0, none⟩))) (w.alloc (.cells #[.int .i64 pg] 3)) := by
    have e0 := (show a0.eval (.tmp 0) = .int .i64 pg from ((fa0_0.at_ 0).trans (ha 0 _ rfl)))
    clear fa0_0 ha hpg
    generalize a0.eval = ρ at *
    go_simp
  refine fa0_0.stepW 3 (.pointer (some ⟨w.heap.size, 0, none⟩)) rfl (lb_ hsz) (wanted_none rfl) r_a0_1 (fun a0_1 fa0_1 => ?_)
  clear r_a0_1
  obtain ⟨V, hV⟩ : ∃ V, V = w.alloc (.cells #[.int .i64 pg] 3) := ⟨_, rfl⟩
  rw [← hV]
  have sV : Same w V := by rw [hV]; exact (Fr.refl _ w).alloc _
  have hVr : V.heap[w.heap.size]? = some (.cells #[.int .i64 pg] 3 (0, 0)) := by rw [hV]; exact heap_alloc_new w _
  clear hV
  have k0 : V.cell? ⟨w.heap.size, 0, none⟩ = some (.int .i64 pg) := (cell_of_row _ _ _ _ _ _ hVr).trans rfl
  clear fa0_0
  refine fa0_1.move 6 (.pointer none) _ (Or.inr rfl) rfl (lb_ hsz) (wanted_none rfl) rfl (fun a0_2 fa0_2 => ?_)
  clear fa0_1
  refine fa0_2.move 7 (.int .i64 0) _ (Or.inr rfl) rfl (lb_ hsz) (wanted_none rfl) rfl (fun a0_3 fa0_3 => ?_)
  clear fa0_2
  refine wpList_nil ?_
  change Code.wp _ _ _ _ _
  refine wp_seq (wp_seq ?_)
  refine wp_region_list ?_
  unfold rOV1
  have r_a0_4 : (execOp a0_3.eval { dst := some 10, op := Op.load 3 (Operand.tmp 3), type := 3, pos := "disk.go:28", after := #[], guard := none }).run Try.prog (V) = .ok (.value (.int .i64 pg)) (V) := by
    have e3 := (show a0_3.eval (.tmp 3) = .pointer (some ⟨w.heap.size, 0, none⟩) from (fa0_3.at_ 3))
    clear fa0_3 ha hpg
    generalize a0_3.eval = ρ at *
    go_simp
  refine fa0_3.step 10 (.int .i64 pg) rfl (lb_ hsz) (wanted_none rfl) r_a0_4 (fun a0_4 fa0_4 => ?_)
  clear r_a0_4
  clear fa0_3
  have r_a0_5 : (execOp a0_4.eval { dst := some 11, op := Op.call { callee := Callee.value (Operand.func 12), args := #[Operand.tmp 10], argTypes := #[3] }, type := 4, pos := "disk.go:28", after := #[{ on := 0, ground := Ground.data }], guard := none }).run Try.prog (V) = .ok (.enter 12 #[.int .i64 pg]) (V) := by
    have kf : ∀ f, a0_4.eval (.func f) = .func (.func f) #[] #[] := fun _ => rfl
    have e10 := (show a0_4.eval (.tmp 10) = .int .i64 pg from (fa0_4.at_ 10))
    clear fa0_4 ha hpg
    generalize a0_4.eval = ρ at *
    go_simp
  refine fa0_4.call 11 rfl (lb_ hsz) (wanted_none rfl) r_a0_5 (pageSize_calls V hpg) (fun e w1 hR => ?_)
  obtain ⟨rfl, hw1⟩ := hR
  clear r_a0_5
  have hw1 := hw1.symm
  subst hw1
  refine ⟨_, rfl, fun a0_5 fa0_5 => ?_⟩
  clear fa0_4
  have r_a0_6 : (execOp a0_5.eval { dst := some 12, op := Op.unOp UnOp.not 4 (Operand.tmp 11), type := 4, pos := "disk.go:28", after := #[{ on := 1, ground := Ground.data }], guard := none }).run Try.prog (V) = .ok (.value (.bool false)) (V) := by
    have e11 := (show a0_5.eval (.tmp 11) = .bool true from (fa0_5.at_ 11))
    clear fa0_5 ha hpg
    generalize a0_5.eval = ρ at *
    go_simp
  refine fa0_5.step 12 (.bool false) rfl (lb_ hsz) (wanted_none rfl) r_a0_6 (fun a0_6 fa0_6 => ?_)
  clear r_a0_6
  clear fa0_5
  refine fa0_6.move 13 (.bool false) _ (Or.inl rfl) rfl (lb_ hsz) (wanted_none rfl) (fa0_6.at_ 12) (fun a0_7 fa0_7 => ?_)
  clear fa0_6
  refine fa0_7.move 14 (.int .i64 mo) _ (Or.inl rfl) rfl (lb_ hsz) ((wanted_at (t := 13) (c := false) (b := false) rfl rfl rfl (lb_ (fa0_7.size.trans hsz)) (fa0_7.at_ 13)).trans (by rfl)) ((fa0_7.at_ 1).trans (ha 1 _ rfl)) (fun a0_8 fa0_8 => ?_)
  clear fa0_7
  have r_a0_9 : (execOp a0_8.eval { dst := some 15, op := Op.binOp BinOp.lss 3 (Operand.tmp 14) (Operand.const (Value.int IntKind.i64 1)) 3, type := 4, pos := "disk.go:28", after := #[{ on := 4, ground := Ground.data }, { on := 3, ground := Ground.guard }], guard := some (3, false) }).run Try.prog (V) = .ok (.value (.bool false)) (V) := by
    have kc : ∀ v, a0_8.eval (.const v) = v := fun _ => rfl
    have e14 := (show a0_8.eval (.tmp 14) = .int .i64 mo from (fa0_8.at_ 14))
    clear fa0_8 ha hpg
    generalize a0_8.eval = ρ at *
    go_simp
  refine fa0_8.step 15 (.bool false) rfl (lb_ hsz) ((wanted_at (t := 13) (c := false) (b := false) rfl rfl rfl (lb_ (fa0_8.size.trans hsz)) (fa0_8.at_ 13)).trans (by rfl)) r_a0_9 (fun a0_9 fa0_9 => ?_)
  clear r_a0_9
  clear fa0_8
  have r_a0_10 : (execOp a0_9.eval { dst := some 16, op := Op.pick (Operand.tmp 13) (Operand.const (Value.bool true)) (Operand.tmp 15), type := 4, pos := "disk.go:28", after := #[{ on := 3, ground := Ground.data }, { on := 5, ground := Ground.data }], guard := none }).run Try.prog (V) = .ok (.value (.bool false)) (V) := by
    have kc : ∀ v, a0_9.eval (.const v) = v := fun _ => rfl
    have e13 := (show a0_9.eval (.tmp 13) = .bool false from (fa0_9.at_ 13))
    have e15 := (show a0_9.eval (.tmp 15) = .bool false from (fa0_9.at_ 15))
    clear fa0_9 ha hpg
    generalize a0_9.eval = ρ at *
    go_simp
  refine fa0_9.step 16 (.bool false) rfl (lb_ hsz) (wanted_none rfl) r_a0_10 (fun a0_10 fa0_10 => ?_)
  clear r_a0_10
  clear fa0_9
  refine fa0_10.move 17 (.bool false) _ (Or.inl rfl) rfl (lb_ hsz) (wanted_none rfl) (fa0_10.at_ 16) (fun a0_11 fa0_11 => ?_)
  clear fa0_10
  refine fa0_11.move 18 (.int .i64 mo) _ (Or.inl rfl) rfl (lb_ hsz) ((wanted_at (t := 17) (c := false) (b := false) rfl rfl rfl (lb_ (fa0_11.size.trans hsz)) (fa0_11.at_ 17)).trans (by rfl)) ((fa0_11.at_ 1).trans (ha 1 _ rfl)) (fun a0_12 fa0_12 => ?_)
  clear fa0_11
  have r_a0_13 : (execOp a0_12.eval { dst := some 19, op := Op.binOp BinOp.gtr 3 (Operand.tmp 18) (Operand.const (Value.int IntKind.i64 65536)) 3, type := 4, pos := "disk.go:28", after := #[{ on := 8, ground := Ground.data }, { on := 7, ground := Ground.guard }], guard := some (7, false) }).run Try.prog (V) = .ok (.value (.bool true)) (V) := by
    have kc : ∀ v, a0_12.eval (.const v) = v := fun _ => rfl
    have e18 := (show a0_12.eval (.tmp 18) = .int .i64 mo from (fa0_12.at_ 18))
    clear fa0_12 ha hpg
    generalize a0_12.eval = ρ at *
    go_simp
  refine fa0_12.step 19 (.bool true) rfl (lb_ hsz) ((wanted_at (t := 17) (c := false) (b := false) rfl rfl rfl (lb_ (fa0_12.size.trans hsz)) (fa0_12.at_ 17)).trans (by rfl)) r_a0_13 (fun a0_13 fa0_13 => ?_)
  clear r_a0_13
  clear fa0_12
  have r_a0_14 : (execOp a0_13.eval { dst := some 20, op := Op.pick (Operand.tmp 17) (Operand.const (Value.bool true)) (Operand.tmp 19), type := 4, pos := "disk.go:28", after := #[{ on := 7, ground := Ground.data }, { on := 9, ground := Ground.data }], guard := none }).run Try.prog (V) = .ok (.value (.bool true)) (V) := by
    have kc : ∀ v, a0_13.eval (.const v) = v := fun _ => rfl
    have e17 := (show a0_13.eval (.tmp 17) = .bool false from (fa0_13.at_ 17))
    have e19 := (show a0_13.eval (.tmp 19) = .bool true from (fa0_13.at_ 19))
    clear fa0_13 ha hpg
    generalize a0_13.eval = ρ at *
    go_simp
  refine fa0_13.step 20 (.bool true) rfl (lb_ hsz) (wanted_none rfl) r_a0_14 (fun a0_14 fa0_14 => ?_)
  clear r_a0_14
  clear fa0_13
  refine wpList_nil ?_
  change Code.wp _ _ _ _ _
  refine wp_cond_true (show a0_14.eval (.tmp 20) = .bool true from (fa0_14.at_ 20)) ?_
  change Code.wp _ _ _ _ _
  refine wp_seq ?_
  refine wp_region_list ?_
  unfold rOV2
  refine fa0_14.move 6 (.pointer none) _ (Or.inr rfl) rfl (lb_ hsz) (wanted_none rfl) rfl (fun a0_15 fa0_15 => ?_)
  clear fa0_14
  refine fa0_15.move 7 (.int .i64 2) _ (Or.inr rfl) rfl (lb_ hsz) (wanted_none rfl) rfl (fun a0_16 fa0_16 => ?_)
  clear fa0_15
  refine wpList_nil ?_
  change Code.wp _ _ _ _ _
  refine wp_ret ?_
  simp only [Exit.then]
  refine bodyPost_ret (results_tmp2 rfl _ _ _) (fa0_16.defers.trans hd) ?_
  refine ⟨congrArg Ending.returned ?_, sV⟩
  show Value.tuple #[a0_16.eval (.tmp 6), a0_16.eval (.tmp 7)] = _
  rw [(show a0_16.eval (.tmp 6) = .pointer none from (fa0_16.at_ 6)), (show a0_16.eval (.tmp 7) = .int .i64 2 from (fa0_16.at_ 7))]
set_option maxRecDepth 100000 in
set_option maxHeartbeats 1000000 in
theorem from_long {pg mo : Int} {ia : Option Addr} {ic : Nat} {L : List ByteArray} (w : World) (hpg : pg = 1024 ∨ pg = 2048 ∨ pg = 4096 ∨ pg = 8192) (h1 : 1 ≤ mo) (h2 : mo ≤ 65536) (m3 : mo < (L.length : Int)) :
    Calls Try.prog 5 #[.int .i64 pg, .int .i64 mo, .slice ia L.length ic] w fun e w' => e = .returned (.tuple #[.pointer none, .int .i64 42]) ∧ Same w w' := by
  have m1 : ¬ mo < 1 := by omega
  have m2 : ¬ (65536 : Int) < mo := by omega
  refine calls_abs (c := cOV) Try.func5 (by kernel_rfl) 39 rfl (by simp) (fun a0 hsz hd ha => ?_)
  have fa0_0 := Fe.refl a0
  unfold cOV
  refine wp_seq ?_
  refine wp_region_list ?_
  unfold rOV0
  have r_a0_1 : (execOp a0.eval { dst := some 3, op := Op.box 3 (Operand.tmp 0), type := 0, pos := "disk.go:27", after := #[], guard := none }).run Try.prog (w) = .ok (.value (.pointer (some ⟨w.heap.size, 0, none⟩))) (w.alloc (.cells #[.int .i64 pg] 3)) := by
    have e0 := (show a0.eval (.tmp 0) = .int .i64 pg from ((fa0_0.at_ 0).trans (ha 0 _ rfl)))
    clear fa0_0 ha hpg
    generalize a0.eval = ρ at *
    go_simp
  refine fa0_0.stepW 3 (.pointer (some ⟨w.heap.size, 0, none⟩)) rfl (lb_ hsz) (wanted_none rfl) r_a0_1 (fun a0_1 fa0_1 => ?_)
  clear r_a0_1
  obtain ⟨V, hV⟩ : ∃ V, V = w.alloc (.cells #[.int .i64 pg] 3) := ⟨_, rfl⟩
  rw [← hV]
  have sV : Same w V := by rw [hV]; exact (Fr.refl _ w).alloc _
  have hVr : V.heap[w.heap.size]? = some (.cells #[.int .i64 pg] 3 (0, 0)) := by rw [hV]; exact heap_alloc_new w _
  clear hV
  have k0 : V.cell? ⟨w.heap.size, 0, none⟩ = some (.int .i64 pg) := (cell_of_row _ _ _ _ _ _ hVr).trans rfl
  clear fa0_0
  refine fa0_1.move 6 (.pointer none) _ (Or.inr rfl) rfl (lb_ hsz) (wanted_none rfl) rfl (fun a0_2 fa0_2 => ?_)
  clear fa0_1
  refine fa0_2.move 7 (.int .i64 0) _ (Or.inr rfl) rfl (lb_ hsz) (wanted_none rfl) rfl (fun a0_3 fa0_3 => ?_)
  clear fa0_2
  refine wpList_nil ?_
  change Code.wp _ _ _ _ _
  refine wp_seq (wp_seq ?_)
  refine wp_region_list ?_
  unfold rOV1
  have r_a0_4 : (execOp a0_3.eval { dst := some 10, op := Op.load 3 (Operand.tmp 3), type := 3, pos := "disk.go:28", after := #[], guard := none }).run Try.prog (V) = .ok (.value (.int .i64 pg)) (V) := by
    have e3 := (show a0_3.eval (.tmp 3) = .pointer (some ⟨w.heap.size, 0, none⟩) from (fa0_3.at_ 3))
    clear fa0_3 ha hpg
    generalize a0_3.eval = ρ at *
    go_simp
  refine fa0_3.step 10 (.int .i64 pg) rfl (lb_ hsz) (wanted_none rfl) r_a0_4 (fun a0_4 fa0_4 => ?_)
  clear r_a0_4
  clear fa0_3
  have r_a0_5 : (execOp a0_4.eval { dst := some 11, op := Op.call { callee := Callee.value (Operand.func 12), args := #[Operand.tmp 10], argTypes := #[3] }, type := 4, pos := "disk.go:28", after := #[{ on := 0, ground := Ground.data }], guard := none }).run Try.prog (V) = .ok (.enter 12 #[.int .i64 pg]) (V) := by
    have kf : ∀ f, a0_4.eval (.func f) = .func (.func f) #[] #[] := fun _ => rfl
    have e10 := (show a0_4.eval (.tmp 10) = .int .i64 pg from (fa0_4.at_ 10))
    clear fa0_4 ha hpg
    generalize a0_4.eval = ρ at *
    go_simp
  refine fa0_4.call 11 rfl (lb_ hsz) (wanted_none rfl) r_a0_5 (pageSize_calls V hpg) (fun e w1 hR => ?_)
  obtain ⟨rfl, hw1⟩ := hR
  clear r_a0_5
  have hw1 := hw1.symm
  subst hw1
  refine ⟨_, rfl, fun a0_5 fa0_5 => ?_⟩
  clear fa0_4
  have r_a0_6 : (execOp a0_5.eval { dst := some 12, op := Op.unOp UnOp.not 4 (Operand.tmp 11), type := 4, pos := "disk.go:28", after := #[{ on := 1, ground := Ground.data }], guard := none }).run Try.prog (V) = .ok (.value (.bool false)) (V) := by
    have e11 := (show a0_5.eval (.tmp 11) = .bool true from (fa0_5.at_ 11))
    clear fa0_5 ha hpg
    generalize a0_5.eval = ρ at *
    go_simp
  refine fa0_5.step 12 (.bool false) rfl (lb_ hsz) (wanted_none rfl) r_a0_6 (fun a0_6 fa0_6 => ?_)
  clear r_a0_6
  clear fa0_5
  refine fa0_6.move 13 (.bool false) _ (Or.inl rfl) rfl (lb_ hsz) (wanted_none rfl) (fa0_6.at_ 12) (fun a0_7 fa0_7 => ?_)
  clear fa0_6
  refine fa0_7.move 14 (.int .i64 mo) _ (Or.inl rfl) rfl (lb_ hsz) ((wanted_at (t := 13) (c := false) (b := false) rfl rfl rfl (lb_ (fa0_7.size.trans hsz)) (fa0_7.at_ 13)).trans (by rfl)) ((fa0_7.at_ 1).trans (ha 1 _ rfl)) (fun a0_8 fa0_8 => ?_)
  clear fa0_7
  have r_a0_9 : (execOp a0_8.eval { dst := some 15, op := Op.binOp BinOp.lss 3 (Operand.tmp 14) (Operand.const (Value.int IntKind.i64 1)) 3, type := 4, pos := "disk.go:28", after := #[{ on := 4, ground := Ground.data }, { on := 3, ground := Ground.guard }], guard := some (3, false) }).run Try.prog (V) = .ok (.value (.bool false)) (V) := by
    have kc : ∀ v, a0_8.eval (.const v) = v := fun _ => rfl
    have e14 := (show a0_8.eval (.tmp 14) = .int .i64 mo from (fa0_8.at_ 14))
    clear fa0_8 ha hpg
    generalize a0_8.eval = ρ at *
    go_simp
  refine fa0_8.step 15 (.bool false) rfl (lb_ hsz) ((wanted_at (t := 13) (c := false) (b := false) rfl rfl rfl (lb_ (fa0_8.size.trans hsz)) (fa0_8.at_ 13)).trans (by rfl)) r_a0_9 (fun a0_9 fa0_9 => ?_)
  clear r_a0_9
  clear fa0_8
  have r_a0_10 : (execOp a0_9.eval { dst := some 16, op := Op.pick (Operand.tmp 13) (Operand.const (Value.bool true)) (Operand.tmp 15), type := 4, pos := "disk.go:28", after := #[{ on := 3, ground := Ground.data }, { on := 5, ground := Ground.data }], guard := none }).run Try.prog (V) = .ok (.value (.bool false)) (V) := by
    have kc : ∀ v, a0_9.eval (.const v) = v := fun _ => rfl
    have e13 := (show a0_9.eval (.tmp 13) = .bool false from (fa0_9.at_ 13))
    have e15 := (show a0_9.eval (.tmp 15) = .bool false from (fa0_9.at_ 15))
    clear fa0_9 ha hpg
    generalize a0_9.eval = ρ at *
    go_simp
  refine fa0_9.step 16 (.bool false) rfl (lb_ hsz) (wanted_none rfl) r_a0_10 (fun a0_10 fa0_10 => ?_)
  clear r_a0_10
  clear fa0_9
  refine fa0_10.move 17 (.bool false) _ (Or.inl rfl) rfl (lb_ hsz) (wanted_none rfl) (fa0_10.at_ 16) (fun a0_11 fa0_11 => ?_)
  clear fa0_10
  refine fa0_11.move 18 (.int .i64 mo) _ (Or.inl rfl) rfl (lb_ hsz) ((wanted_at (t := 17) (c := false) (b := false) rfl rfl rfl (lb_ (fa0_11.size.trans hsz)) (fa0_11.at_ 17)).trans (by rfl)) ((fa0_11.at_ 1).trans (ha 1 _ rfl)) (fun a0_12 fa0_12 => ?_)
  clear fa0_11
  have r_a0_13 : (execOp a0_12.eval { dst := some 19, op := Op.binOp BinOp.gtr 3 (Operand.tmp 18) (Operand.const (Value.int IntKind.i64 65536)) 3, type := 4, pos := "disk.go:28", after := #[{ on := 8, ground := Ground.data }, { on := 7, ground := Ground.guard }], guard := some (7, false) }).run Try.prog (V) = .ok (.value (.bool false)) (V) := by
    have kc : ∀ v, a0_12.eval (.const v) = v := fun _ => rfl
    have e18 := (show a0_12.eval (.tmp 18) = .int .i64 mo from (fa0_12.at_ 18))
    clear fa0_12 ha hpg
    generalize a0_12.eval = ρ at *
    go_simp
  refine fa0_12.step 19 (.bool false) rfl (lb_ hsz) ((wanted_at (t := 17) (c := false) (b := false) rfl rfl rfl (lb_ (fa0_12.size.trans hsz)) (fa0_12.at_ 17)).trans (by rfl)) r_a0_13 (fun a0_13 fa0_13 => ?_)
  clear r_a0_13
  clear fa0_12
  have r_a0_14 : (execOp a0_13.eval { dst := some 20, op := Op.pick (Operand.tmp 17) (Operand.const (Value.bool true)) (Operand.tmp 19), type := 4, pos := "disk.go:28", after := #[{ on := 7, ground := Ground.data }, { on := 9, ground := Ground.data }], guard := none }).run Try.prog (V) = .ok (.value (.bool false)) (V) := by
    have kc : ∀ v, a0_13.eval (.const v) = v := fun _ => rfl
    have e17 := (show a0_13.eval (.tmp 17) = .bool false from (fa0_13.at_ 17))
    have e19 := (show a0_13.eval (.tmp 19) = .bool false from (fa0_13.at_ 19))
    clear fa0_13 ha hpg
    generalize a0_13.eval = ρ at *
    go_simp
  refine fa0_13.step 20 (.bool false) rfl (lb_ hsz) (wanted_none rfl) r_a0_14 (fun a0_14 fa0_14 => ?_)
  clear r_a0_14
  clear fa0_13
  refine wpList_nil ?_
  change Code.wp _ _ _ _ _
  refine wp_cond_false (show a0_14.eval (.tmp 20) = .bool false from (fa0_14.at_ 20)) (wp_skip ?_)
  change Code.wp _ _ _ _ _
  refine wp_seq ?_
  refine wp_region_list ?_
  unfold rOV3
  have r_a0_15 : (execOp a0_14.eval { dst := some 21, op := Op.makeFunc (Go.Fn.func 13) #[] #[Operand.tmp 3], type := 43, pos := "disk.go:31", after := #[], guard := none }).run Try.prog (V) = .ok (.value (.func (.func 13) #[] #[.pointer (some ⟨w.heap.size, 0, none⟩)])) (V) := by
    have e3 := (show a0_14.eval (.tmp 3) = .pointer (some ⟨w.heap.size, 0, none⟩) from (fa0_14.at_ 3))
    clear fa0_14 ha hpg
    generalize a0_14.eval = ρ at *
    go_simp
  refine fa0_14.step 21 (.func (.func 13) #[] #[.pointer (some ⟨w.heap.size, 0, none⟩)]) rfl (lb_ hsz) (wanted_none rfl) r_a0_15 (fun a0_15 fa0_15 => ?_)
  clear r_a0_15
  clear fa0_14
  refine fa0_15.move 8 (.func (.func 13) #[] #[.pointer (some ⟨w.heap.size, 0, none⟩)]) _ (Or.inr rfl) rfl (lb_ hsz) (wanted_none rfl) (fa0_15.at_ 21) (fun a0_16 fa0_16 => ?_)
  clear fa0_15
  refine wpList_nil ?_
  change Code.wp _ _ _ _ _
  refine wp_seq (wp_seq ?_)
  refine wp_region_list ?_
  unfold rOV4
  refine fa0_16.move 22 (.slice ia L.length ic) _ (Or.inl rfl) rfl (lb_ hsz) (wanted_none rfl) ((fa0_16.at_ 2).trans (ha 2 _ rfl)) (fun a0_17 fa0_17 => ?_)
  clear fa0_16
  have r_a0_18 : (execOp a0_17.eval { dst := some 23, op := Op.call { callee := Callee.builtin Builtin.len, args := #[Operand.tmp 22], argTypes := #[22] }, type := 3, pos := "disk.go:32", after := #[{ on := 0, ground := Ground.data }], guard := none }).run Try.prog (V) = .ok (.value (.int .i64 (L.length : Int))) (V) := by
    have e22 := (show a0_17.eval (.tmp 22) = .slice ia L.length ic from (fa0_17.at_ 22))
    clear fa0_17 ha hpg
    generalize a0_17.eval = ρ at *
    go_simp
  refine fa0_17.step 23 (.int .i64 (L.length : Int)) rfl (lb_ hsz) (wanted_none rfl) r_a0_18 (fun a0_18 fa0_18 => ?_)
  clear r_a0_18
  clear fa0_17
  refine fa0_18.move 24 (.int .i64 mo) _ (Or.inl rfl) rfl (lb_ hsz) (wanted_none rfl) ((fa0_18.at_ 1).trans (ha 1 _ rfl)) (fun a0_19 fa0_19 => ?_)
  clear fa0_18
  have r_a0_20 : (execOp a0_19.eval { dst := some 25, op := Op.binOp BinOp.gtr 3 (Operand.tmp 23) (Operand.tmp 24) 3, type := 4, pos := "disk.go:32", after := #[{ on := 1, ground := Ground.data }, { on := 2, ground := Ground.data }], guard := none }).run Try.prog (V) = .ok (.value (.bool true)) (V) := by
    have e23 := (show a0_19.eval (.tmp 23) = .int .i64 (L.length : Int) from (fa0_19.at_ 23))
    have e24 := (show a0_19.eval (.tmp 24) = .int .i64 mo from (fa0_19.at_ 24))
    clear fa0_19 ha hpg
    generalize a0_19.eval = ρ at *
    go_simp
  refine fa0_19.step 25 (.bool true) rfl (lb_ hsz) (wanted_none rfl) r_a0_20 (fun a0_20 fa0_20 => ?_)
  clear r_a0_20
  clear fa0_19
  refine fa0_20.move 26 (.bool true) _ (Or.inl rfl) rfl (lb_ hsz) (wanted_none rfl) (fa0_20.at_ 25) (fun a0_21 fa0_21 => ?_)
  clear fa0_20
  refine fa0_21.skip 27 rfl (lb_ hsz) ((wanted_at (t := 26) (c := true) (b := false) rfl rfl rfl (lb_ (fa0_21.size.trans hsz)) (fa0_21.at_ 26)).trans (by rfl)) (fun a0_22 fa0_22 => ?_)
  clear fa0_21
  refine fa0_22.skip 28 rfl (lb_ hsz) ((wanted_at (t := 26) (c := true) (b := false) rfl rfl rfl (lb_ (fa0_22.size.trans hsz)) (fa0_22.at_ 26)).trans (by rfl)) (fun a0_23 fa0_23 => ?_)
  clear fa0_22
  refine fa0_23.skip 29 rfl (lb_ hsz) ((wanted_at (t := 26) (c := true) (b := false) rfl rfl rfl (lb_ (fa0_23.size.trans hsz)) (fa0_23.at_ 26)).trans (by rfl)) (fun a0_24 fa0_24 => ?_)
  clear fa0_23
  have r_a0_25 : (execOp a0_24.eval { dst := some 30, op := Op.pick (Operand.tmp 26) (Operand.const (Value.bool true)) (Operand.tmp 29), type := 4, pos := "disk.go:32", after := #[{ on := 4, ground := Ground.data }, { on := 7, ground := Ground.data }], guard := none }).run Try.prog (V) = .ok (.value (.bool true)) (V) := by
    have kc : ∀ v, a0_24.eval (.const v) = v := fun _ => rfl
    have e26 := (show a0_24.eval (.tmp 26) = .bool true from (fa0_24.at_ 26))
    have e29 := (show a0_24.eval (.tmp 29) = undef from (fa0_24.at_ 29))
    clear fa0_24 ha hpg
    generalize a0_24.eval = ρ at *
    go_simp
  refine fa0_24.step 30 (.bool true) rfl (lb_ hsz) (wanted_none rfl) r_a0_25 (fun a0_25 fa0_25 => ?_)
  clear r_a0_25
  clear fa0_24
  refine wpList_nil ?_
  change Code.wp _ _ _ _ _
  refine wp_cond_true (show a0_25.eval (.tmp 30) = .bool true from (fa0_25.at_ 30)) ?_
  change Code.wp _ _ _ _ _
  refine wp_seq ?_
  refine wp_region_list ?_
  unfold rOV5
  refine fa0_25.move 6 (.pointer none) _ (Or.inr rfl) rfl (lb_ hsz) (wanted_none rfl) rfl (fun a0_26 fa0_26 => ?_)
  clear fa0_25
  refine fa0_26.move 7 (.int .i64 42) _ (Or.inr rfl) rfl (lb_ hsz) (wanted_none rfl) rfl (fun a0_27 fa0_27 => ?_)
  clear fa0_26
  refine wpList_nil ?_
  change Code.wp _ _ _ _ _
  refine wp_ret ?_
  simp only [Exit.then]
  refine bodyPost_ret (results_tmp2 rfl _ _ _) (fa0_27.defers.trans hd) ?_
  refine ⟨congrArg Ending.returned ?_, sV⟩
  show Value.tuple #[a0_27.eval (.tmp 6), a0_27.eval (.tmp 7)] = _
  rw [(show a0_27.eval (.tmp 6) = .pointer none from (fa0_27.at_ 6)), (show a0_27.eval (.tmp 7) = .int .i64 42 from (fa0_27.at_ 7))]
set_option maxRecDepth 100000 in
set_option maxHeartbeats 1000000 in
theorem from_wrong {pb po : Nat} {pg mo : Int} {ia : Option Addr} {ic : Nat} {L : List ByteArray} (w : World) (hpg : pg = 1024 ∨ pg = 2048 ∨ pg = 4096 ∨ pg = 8192) (h1 : 1 ≤ mo) (h2 : mo ≤ 65536) (m3 : ¬ mo < (L.length : Int)) (hr : TRow w ia pb po L) (hw0 : L.any (sizeNo pg) = true) :
    Calls Try.prog 5 #[.int .i64 pg, .int .i64 mo, .slice ia L.length ic] w fun e w' => e = .returned (.tuple #[.pointer none, .int .i64 42]) ∧ Same w w' := by
  have m1 : ¬ mo < 1 := by omega
  have m2 : ¬ (65536 : Int) < mo := by omega
  refine calls_abs (c := cOV) Try.func5 (by kernel_rfl) 39 rfl (by simp) (fun a0 hsz hd ha => ?_)
  have fa0_0 := Fe.refl a0
  unfold cOV
  refine wp_seq ?_
  refine wp_region_list ?_
  unfold rOV0
  have r_a0_1 : (execOp a0.eval { dst := some 3, op := Op.box 3 (Operand.tmp 0), type := 0, pos := "disk.go:27", after := #[], guard := none }).run Try.prog (w) = .ok (.value (.pointer (some ⟨w.heap.size, 0, none⟩))) (w.alloc (.cells #[.int .i64 pg] 3)) := by
    have e0 := (show a0.eval (.tmp 0) = .int .i64 pg from ((fa0_0.at_ 0).trans (ha 0 _ rfl)))
    clear fa0_0 ha hpg hr hw0
    generalize a0.eval = ρ at *
    go_simp
  refine fa0_0.stepW 3 (.pointer (some ⟨w.heap.size, 0, none⟩)) rfl (lb_ hsz) (wanted_none rfl) r_a0_1 (fun a0_1 fa0_1 => ?_)
  clear r_a0_1
  obtain ⟨V, hV⟩ : ∃ V, V = w.alloc (.cells #[.int .i64 pg] 3) := ⟨_, rfl⟩
  rw [← hV]
  have sV : Same w V := by rw [hV]; exact (Fr.refl _ w).alloc _
  have hVr : V.heap[w.heap.size]? = some (.cells #[.int .i64 pg] 3 (0, 0)) := by rw [hV]; exact heap_alloc_new w _
  clear hV
  have k0 : V.cell? ⟨w.heap.size, 0, none⟩ = some (.int .i64 pg) := (cell_of_row _ _ _ _ _ _ hVr).trans rfl
  clear fa0_0
  refine fa0_1.move 6 (.pointer none) _ (Or.inr rfl) rfl (lb_ hsz) (wanted_none rfl) rfl (fun a0_2 fa0_2 => ?_)
  clear fa0_1
  refine fa0_2.move 7 (.int .i64 0) _ (Or.inr rfl) rfl (lb_ hsz) (wanted_none rfl) rfl (fun a0_3 fa0_3 => ?_)
  clear fa0_2
  refine wpList_nil ?_
  change Code.wp _ _ _ _ _
  refine wp_seq (wp_seq ?_)
  refine wp_region_list ?_
  unfold rOV1
  have r_a0_4 : (execOp a0_3.eval { dst := some 10, op := Op.load 3 (Operand.tmp 3), type := 3, pos := "disk.go:28", after := #[], guard := none }).run Try.prog (V) = .ok (.value (.int .i64 pg)) (V) := by
    have e3 := (show a0_3.eval (.tmp 3) = .pointer (some ⟨w.heap.size, 0, none⟩) from (fa0_3.at_ 3))
    clear fa0_3 ha hpg hr hw0
    generalize a0_3.eval = ρ at *
    go_simp
  refine fa0_3.step 10 (.int .i64 pg) rfl (lb_ hsz) (wanted_none rfl) r_a0_4 (fun a0_4 fa0_4 => ?_)
  clear r_a0_4
  clear fa0_3
  have r_a0_5 : (execOp a0_4.eval { dst := some 11, op := Op.call { callee := Callee.value (Operand.func 12), args := #[Operand.tmp 10], argTypes := #[3] }, type := 4, pos := "disk.go:28", after := #[{ on := 0, ground := Ground.data }], guard := none }).run Try.prog (V) = .ok (.enter 12 #[.int .i64 pg]) (V) := by
    have kf : ∀ f, a0_4.eval (.func f) = .func (.func f) #[] #[] := fun _ => rfl
    have e10 := (show a0_4.eval (.tmp 10) = .int .i64 pg from (fa0_4.at_ 10))
    clear fa0_4 ha hpg hr hw0
    generalize a0_4.eval = ρ at *
    go_simp
  refine fa0_4.call 11 rfl (lb_ hsz) (wanted_none rfl) r_a0_5 (pageSize_calls V hpg) (fun e w1 hR => ?_)
  obtain ⟨rfl, hw1⟩ := hR
  clear r_a0_5
  have hw1 := hw1.symm
  subst hw1
  refine ⟨_, rfl, fun a0_5 fa0_5 => ?_⟩
  clear fa0_4
  have r_a0_6 : (execOp a0_5.eval { dst := some 12, op := Op.unOp UnOp.not 4 (Operand.tmp 11), type := 4, pos := "disk.go:28", after := #[{ on := 1, ground := Ground.data }], guard := none }).run Try.prog (V) = .ok (.value (.bool false)) (V) := by
    have e11 := (show a0_5.eval (.tmp 11) = .bool true from (fa0_5.at_ 11))
    clear fa0_5 ha hpg hr hw0
    generalize a0_5.eval = ρ at *
    go_simp
  refine fa0_5.step 12 (.bool false) rfl (lb_ hsz) (wanted_none rfl) r_a0_6 (fun a0_6 fa0_6 => ?_)
  clear r_a0_6
  clear fa0_5
  refine fa0_6.move 13 (.bool false) _ (Or.inl rfl) rfl (lb_ hsz) (wanted_none rfl) (fa0_6.at_ 12) (fun a0_7 fa0_7 => ?_)
  clear fa0_6
  refine fa0_7.move 14 (.int .i64 mo) _ (Or.inl rfl) rfl (lb_ hsz) ((wanted_at (t := 13) (c := false) (b := false) rfl rfl rfl (lb_ (fa0_7.size.trans hsz)) (fa0_7.at_ 13)).trans (by rfl)) ((fa0_7.at_ 1).trans (ha 1 _ rfl)) (fun a0_8 fa0_8 => ?_)
  clear fa0_7
  have r_a0_9 : (execOp a0_8.eval { dst := some 15, op := Op.binOp BinOp.lss 3 (Operand.tmp 14) (Operand.const (Value.int IntKind.i64 1)) 3, type := 4, pos := "disk.go:28", after := #[{ on := 4, ground := Ground.data }, { on := 3, ground := Ground.guard }], guard := some (3, false) }).run Try.prog (V) = .ok (.value (.bool false)) (V) := by
    have kc : ∀ v, a0_8.eval (.const v) = v := fun _ => rfl
    have e14 := (show a0_8.eval (.tmp 14) = .int .i64 mo from (fa0_8.at_ 14))
    clear fa0_8 ha hpg hr hw0
    generalize a0_8.eval = ρ at *
    go_simp
  refine fa0_8.step 15 (.bool false) rfl (lb_ hsz) ((wanted_at (t := 13) (c := false) (b := false) rfl rfl rfl (lb_ (fa0_8.size.trans hsz)) (fa0_8.at_ 13)).trans (by rfl)) r_a0_9 (fun a0_9 fa0_9 => ?_)
  clear r_a0_9
  clear fa0_8
  have r_a0_10 : (execOp a0_9.eval { dst := some 16, op := Op.pick (Operand.tmp 13) (Operand.const (Value.bool true)) (Operand.tmp 15), type := 4, pos := "disk.go:28", after := #[{ on := 3, ground := Ground.data }, { on := 5, ground := Ground.data }], guard := none }).run Try.prog (V) = .ok (.value (.bool false)) (V) := by
    have kc : ∀ v, a0_9.eval (.const v) = v := fun _ => rfl
    have e13 := (show a0_9.eval (.tmp 13) = .bool false from (fa0_9.at_ 13))
    have e15 := (show a0_9.eval (.tmp 15) = .bool false from (fa0_9.at_ 15))
    clear fa0_9 ha hpg hr hw0
    generalize a0_9.eval = ρ at *
    go_simp
  refine fa0_9.step 16 (.bool false) rfl (lb_ hsz) (wanted_none rfl) r_a0_10 (fun a0_10 fa0_10 => ?_)
  clear r_a0_10
  clear fa0_9
  refine fa0_10.move 17 (.bool false) _ (Or.inl rfl) rfl (lb_ hsz) (wanted_none rfl) (fa0_10.at_ 16) (fun a0_11 fa0_11 => ?_)
  clear fa0_10
  refine fa0_11.move 18 (.int .i64 mo) _ (Or.inl rfl) rfl (lb_ hsz) ((wanted_at (t := 17) (c := false) (b := false) rfl rfl rfl (lb_ (fa0_11.size.trans hsz)) (fa0_11.at_ 17)).trans (by rfl)) ((fa0_11.at_ 1).trans (ha 1 _ rfl)) (fun a0_12 fa0_12 => ?_)
  clear fa0_11
  have r_a0_13 : (execOp a0_12.eval { dst := some 19, op := Op.binOp BinOp.gtr 3 (Operand.tmp 18) (Operand.const (Value.int IntKind.i64 65536)) 3, type := 4, pos := "disk.go:28", after := #[{ on := 8, ground := Ground.data }, { on := 7, ground := Ground.guard }], guard := some (7, false) }).run Try.prog (V) = .ok (.value (.bool false)) (V) := by
    have kc : ∀ v, a0_12.eval (.const v) = v := fun _ => rfl
    have e18 := (show a0_12.eval (.tmp 18) = .int .i64 mo from (fa0_12.at_ 18))
    clear fa0_12 ha hpg hr hw0
    generalize a0_12.eval = ρ at *
    go_simp
  refine fa0_12.step 19 (.bool false) rfl (lb_ hsz) ((wanted_at (t := 17) (c := false) (b := false) rfl rfl rfl (lb_ (fa0_12.size.trans hsz)) (fa0_12.at_ 17)).trans (by rfl)) r_a0_13 (fun a0_13 fa0_13 => ?_)
  clear r_a0_13
  clear fa0_12
  have r_a0_14 : (execOp a0_13.eval { dst := some 20, op := Op.pick (Operand.tmp 17) (Operand.const (Value.bool true)) (Operand.tmp 19), type := 4, pos := "disk.go:28", after := #[{ on := 7, ground := Ground.data }, { on := 9, ground := Ground.data }], guard := none }).run Try.prog (V) = .ok (.value (.bool false)) (V) := by
    have kc : ∀ v, a0_13.eval (.const v) = v := fun _ => rfl
    have e17 := (show a0_13.eval (.tmp 17) = .bool false from (fa0_13.at_ 17))
    have e19 := (show a0_13.eval (.tmp 19) = .bool false from (fa0_13.at_ 19))
    clear fa0_13 ha hpg hr hw0
    generalize a0_13.eval = ρ at *
    go_simp
  refine fa0_13.step 20 (.bool false) rfl (lb_ hsz) (wanted_none rfl) r_a0_14 (fun a0_14 fa0_14 => ?_)
  clear r_a0_14
  clear fa0_13
  refine wpList_nil ?_
  change Code.wp _ _ _ _ _
  refine wp_cond_false (show a0_14.eval (.tmp 20) = .bool false from (fa0_14.at_ 20)) (wp_skip ?_)
  change Code.wp _ _ _ _ _
  refine wp_seq ?_
  refine wp_region_list ?_
  unfold rOV3
  have r_a0_15 : (execOp a0_14.eval { dst := some 21, op := Op.makeFunc (Go.Fn.func 13) #[] #[Operand.tmp 3], type := 43, pos := "disk.go:31", after := #[], guard := none }).run Try.prog (V) = .ok (.value (.func (.func 13) #[] #[.pointer (some ⟨w.heap.size, 0, none⟩)])) (V) := by
    have e3 := (show a0_14.eval (.tmp 3) = .pointer (some ⟨w.heap.size, 0, none⟩) from (fa0_14.at_ 3))
    clear fa0_14 ha hpg hr hw0
    generalize a0_14.eval = ρ at *
    go_simp
  refine fa0_14.step 21 (.func (.func 13) #[] #[.pointer (some ⟨w.heap.size, 0, none⟩)]) rfl (lb_ hsz) (wanted_none rfl) r_a0_15 (fun a0_15 fa0_15 => ?_)
  clear r_a0_15
  clear fa0_14
  refine fa0_15.move 8 (.func (.func 13) #[] #[.pointer (some ⟨w.heap.size, 0, none⟩)]) _ (Or.inr rfl) rfl (lb_ hsz) (wanted_none rfl) (fa0_15.at_ 21) (fun a0_16 fa0_16 => ?_)
  clear fa0_15
  refine wpList_nil ?_
  change Code.wp _ _ _ _ _
  refine wp_seq (wp_seq ?_)
  refine wp_region_list ?_
  unfold rOV4
  refine fa0_16.move 22 (.slice ia L.length ic) _ (Or.inl rfl) rfl (lb_ hsz) (wanted_none rfl) ((fa0_16.at_ 2).trans (ha 2 _ rfl)) (fun a0_17 fa0_17 => ?_)
  clear fa0_16
  have r_a0_18 : (execOp a0_17.eval { dst := some 23, op := Op.call { callee := Callee.builtin Builtin.len, args := #[Operand.tmp 22], argTypes := #[22] }, type := 3, pos := "disk.go:32", after := #[{ on := 0, ground := Ground.data }], guard := none }).run Try.prog (V) = .ok (.value (.int .i64 (L.length : Int))) (V) := by
    have e22 := (show a0_17.eval (.tmp 22) = .slice ia L.length ic from (fa0_17.at_ 22))
    clear fa0_17 ha hpg hr hw0
    generalize a0_17.eval = ρ at *
    go_simp
  refine fa0_17.step 23 (.int .i64 (L.length : Int)) rfl (lb_ hsz) (wanted_none rfl) r_a0_18 (fun a0_18 fa0_18 => ?_)
  clear r_a0_18
  clear fa0_17
  refine fa0_18.move 24 (.int .i64 mo) _ (Or.inl rfl) rfl (lb_ hsz) (wanted_none rfl) ((fa0_18.at_ 1).trans (ha 1 _ rfl)) (fun a0_19 fa0_19 => ?_)
  clear fa0_18
  have r_a0_20 : (execOp a0_19.eval { dst := some 25, op := Op.binOp BinOp.gtr 3 (Operand.tmp 23) (Operand.tmp 24) 3, type := 4, pos := "disk.go:32", after := #[{ on := 1, ground := Ground.data }, { on := 2, ground := Ground.data }], guard := none }).run Try.prog (V) = .ok (.value (.bool false)) (V) := by
    have e23 := (show a0_19.eval (.tmp 23) = .int .i64 (L.length : Int) from (fa0_19.at_ 23))
    have e24 := (show a0_19.eval (.tmp 24) = .int .i64 mo from (fa0_19.at_ 24))
    clear fa0_19 ha hpg hr hw0
    generalize a0_19.eval = ρ at *
    go_simp
  refine fa0_19.step 25 (.bool false) rfl (lb_ hsz) (wanted_none rfl) r_a0_20 (fun a0_20 fa0_20 => ?_)
  clear r_a0_20
  clear fa0_19
  refine fa0_20.move 26 (.bool false) _ (Or.inl rfl) rfl (lb_ hsz) (wanted_none rfl) (fa0_20.at_ 25) (fun a0_21 fa0_21 => ?_)
  clear fa0_20
  refine fa0_21.move 27 (.slice ia L.length ic) _ (Or.inl rfl) rfl (lb_ hsz) ((wanted_at (t := 26) (c := false) (b := false) rfl rfl rfl (lb_ (fa0_21.size.trans hsz)) (fa0_21.at_ 26)).trans (by rfl)) ((fa0_21.at_ 2).trans (ha 2 _ rfl)) (fun a0_22 fa0_22 => ?_)
  clear fa0_21
  refine fa0_22.move 28 (.func (.func 13) #[] #[.pointer (some ⟨w.heap.size, 0, none⟩)]) _ (Or.inl rfl) rfl (lb_ hsz) ((wanted_at (t := 26) (c := false) (b := false) rfl rfl rfl (lb_ (fa0_22.size.trans hsz)) (fa0_22.at_ 26)).trans (by rfl)) (fa0_22.at_ 8) (fun a0_23 fa0_23 => ?_)
  clear fa0_22
  have r_a0_24 : (execOp a0_23.eval { dst := some 29, op := Op.call { callee := Callee.value (Operand.func 14), args := #[Operand.tmp 27, Operand.tmp 28], argTypes := #[22, 43] }, type := 4, pos := "disk.go:32", after := #[{ on := 5, ground := Ground.data }, { on := 6, ground := Ground.data }, { on := 4, ground := Ground.chain }, { on := 4, ground := Ground.guard }], guard := some (4, false) }).run Try.prog (V) = .ok (.enter 14 #[.slice ia L.length ic, .func (.func 13) #[] #[.pointer (some ⟨w.heap.size, 0, none⟩)]]) (V) := by
    have kf : ∀ f, a0_23.eval (.func f) = .func (.func f) #[] #[] := fun _ => rfl
    have e27 := (show a0_23.eval (.tmp 27) = .slice ia L.length ic from (fa0_23.at_ 27))
    have e28 := (show a0_23.eval (.tmp 28) = .func (.func 13) #[] #[.pointer (some ⟨w.heap.size, 0, none⟩)] from (fa0_23.at_ 28))
    clear fa0_23 ha hpg hr hw0
    generalize a0_23.eval = ρ at *
    go_simp
  refine fa0_23.call 29 rfl (lb_ hsz) ((wanted_at (t := 26) (c := false) (b := false) rfl rfl rfl (lb_ (fa0_23.size.trans hsz)) (fa0_23.at_ 26)).trans (by rfl)) r_a0_24 (by have hC := contains_size (cp := ic) V (hr.same sV) (by omega) k0; rw [hw0] at hC; exact hC) (fun e V0 hR => ?_)
  obtain ⟨rfl, sC⟩ := hR
  clear r_a0_24
  have sV := sV.trans sC
  have k0 := sC.keep k0
  refine ⟨_, rfl, fun a0_24 fa0_24 => ?_⟩
  clear fa0_23
  have r_a0_25 : (execOp a0_24.eval { dst := some 30, op := Op.pick (Operand.tmp 26) (Operand.const (Value.bool true)) (Operand.tmp 29), type := 4, pos := "disk.go:32", after := #[{ on := 4, ground := Ground.data }, { on := 7, ground := Ground.data }], guard := none }).run Try.prog (V0) = .ok (.value (.bool true)) (V0) := by
    have kc : ∀ v, a0_24.eval (.const v) = v := fun _ => rfl
    have e26 := (show a0_24.eval (.tmp 26) = .bool false from (fa0_24.at_ 26))
    have e29 := (show a0_24.eval (.tmp 29) = .bool true from (fa0_24.at_ 29))
    clear fa0_24 ha hpg hr hw0
    generalize a0_24.eval = ρ at *
    go_simp
  refine fa0_24.step 30 (.bool true) rfl (lb_ hsz) (wanted_none rfl) r_a0_25 (fun a0_25 fa0_25 => ?_)
  clear r_a0_25
  clear fa0_24
  refine wpList_nil ?_
  change Code.wp _ _ _ _ _
  refine wp_cond_true (show a0_25.eval (.tmp 30) = .bool true from (fa0_25.at_ 30)) ?_
  change Code.wp _ _ _ _ _
  refine wp_seq ?_
  refine wp_region_list ?_
  unfold rOV5
  refine fa0_25.move 6 (.pointer none) _ (Or.inr rfl) rfl (lb_ hsz) (wanted_none rfl) rfl (fun a0_26 fa0_26 => ?_)
  clear fa0_25
  refine fa0_26.move 7 (.int .i64 42) _ (Or.inr rfl) rfl (lb_ hsz) (wanted_none rfl) rfl (fun a0_27 fa0_27 => ?_)
  clear fa0_26
  refine wpList_nil ?_
  change Code.wp _ _ _ _ _
  refine wp_ret ?_
  simp only [Exit.then]
  refine bodyPost_ret (results_tmp2 rfl _ _ _) (fa0_27.defers.trans hd) ?_
  refine ⟨congrArg Ending.returned ?_, sV⟩
  show Value.tuple #[a0_27.eval (.tmp 6), a0_27.eval (.tmp 7)] = _
  rw [(show a0_27.eval (.tmp 6) = .pointer none from (fa0_27.at_ 6)), (show a0_27.eval (.tmp 7) = .int .i64 42 from (fa0_27.at_ 7))]
/-- A disk of an image. -/
def dkOf (pg mo : Nat) (L : List ByteArray) : Dk := ⟨pg, mo, false, L, L, [], 0, 0, 0, 0, 0⟩
set_option maxRecDepth 100000 in
set_option maxHeartbeats 1000000 in
theorem from_good {pb po : Nat} {pg mo : Int} {ia : Option Addr} {ic : Nat} {L : List ByteArray} (w : World) (hpg : pg = 1024 ∨ pg = 2048 ∨ pg = 4096 ∨ pg = 8192) (h1 : 1 ≤ mo) (h2 : mo ≤ 65536) (m3 : ¬ mo < (L.length : Int)) (hr : TRow w ia pb po L) (hl : L.length ≤ 1048576) (hw0 : L.any (sizeNo pg) = false) :
    Calls Try.prog 5 #[.int .i64 pg, .int .i64 mo, .slice ia L.length ic] w fun e w' => ∃ b, e = .returned (.tuple #[.pointer (some ⟨b, 0, none⟩), .int .i64 0]) ∧ DkAt w' b (dkOf pg.toNat mo.toNat L) (fun k => w.heap.size ≤ k ∧ k < w'.heap.size) ∧ Same w w' := by
  have m1 : ¬ mo < 1 := by omega
  have m2 : ¬ (65536 : Int) < mo := by omega
  refine calls_abs (c := cOV) Try.func5 (by kernel_rfl) 39 rfl (by simp) (fun a0 hsz hd ha => ?_)
  have fa0_0 := Fe.refl a0
  unfold cOV
  refine wp_seq ?_
  refine wp_region_list ?_
  unfold rOV0
  have r_a0_1 : (execOp a0.eval { dst := some 3, op := Op.box 3 (Operand.tmp 0), type := 0, pos := "disk.go:27", after := #[], guard := none }).run Try.prog (w) = .ok (.value (.pointer (some ⟨w.heap.size, 0, none⟩))) (w.alloc (.cells #[.int .i64 pg] 3)) := by
    have e0 := (show a0.eval (.tmp 0) = .int .i64 pg from ((fa0_0.at_ 0).trans (ha 0 _ rfl)))
    clear fa0_0 ha hpg hr hw0
    generalize a0.eval = ρ at *
    go_simp
  refine fa0_0.stepW 3 (.pointer (some ⟨w.heap.size, 0, none⟩)) rfl (lb_ hsz) (wanted_none rfl) r_a0_1 (fun a0_1 fa0_1 => ?_)
  clear r_a0_1
  obtain ⟨V, hV⟩ : ∃ V, V = w.alloc (.cells #[.int .i64 pg] 3) := ⟨_, rfl⟩
  rw [← hV]
  have sV : Same w V := by rw [hV]; exact (Fr.refl _ w).alloc _
  have hVr : V.heap[w.heap.size]? = some (.cells #[.int .i64 pg] 3 (0, 0)) := by rw [hV]; exact heap_alloc_new w _
  clear hV
  have k0 : V.cell? ⟨w.heap.size, 0, none⟩ = some (.int .i64 pg) := (cell_of_row _ _ _ _ _ _ hVr).trans rfl
  clear fa0_0
  refine fa0_1.move 6 (.pointer none) _ (Or.inr rfl) rfl (lb_ hsz) (wanted_none rfl) rfl (fun a0_2 fa0_2 => ?_)
  clear fa0_1
  refine fa0_2.move 7 (.int .i64 0) _ (Or.inr rfl) rfl (lb_ hsz) (wanted_none rfl) rfl (fun a0_3 fa0_3 => ?_)
  clear fa0_2
  refine wpList_nil ?_
  change Code.wp _ _ _ _ _
  refine wp_seq (wp_seq ?_)
  refine wp_region_list ?_
  unfold rOV1
  have r_a0_4 : (execOp a0_3.eval { dst := some 10, op := Op.load 3 (Operand.tmp 3), type := 3, pos := "disk.go:28", after := #[], guard := none }).run Try.prog (V) = .ok (.value (.int .i64 pg)) (V) := by
    have e3 := (show a0_3.eval (.tmp 3) = .pointer (some ⟨w.heap.size, 0, none⟩) from (fa0_3.at_ 3))
    clear fa0_3 ha hpg hr hw0
    generalize a0_3.eval = ρ at *
    go_simp
  refine fa0_3.step 10 (.int .i64 pg) rfl (lb_ hsz) (wanted_none rfl) r_a0_4 (fun a0_4 fa0_4 => ?_)
  clear r_a0_4
  clear fa0_3
  have r_a0_5 : (execOp a0_4.eval { dst := some 11, op := Op.call { callee := Callee.value (Operand.func 12), args := #[Operand.tmp 10], argTypes := #[3] }, type := 4, pos := "disk.go:28", after := #[{ on := 0, ground := Ground.data }], guard := none }).run Try.prog (V) = .ok (.enter 12 #[.int .i64 pg]) (V) := by
    have kf : ∀ f, a0_4.eval (.func f) = .func (.func f) #[] #[] := fun _ => rfl
    have e10 := (show a0_4.eval (.tmp 10) = .int .i64 pg from (fa0_4.at_ 10))
    clear fa0_4 ha hpg hr hw0
    generalize a0_4.eval = ρ at *
    go_simp
  refine fa0_4.call 11 rfl (lb_ hsz) (wanted_none rfl) r_a0_5 (pageSize_calls V hpg) (fun e w1 hR => ?_)
  obtain ⟨rfl, hw1⟩ := hR
  clear r_a0_5
  have hw1 := hw1.symm
  subst hw1
  refine ⟨_, rfl, fun a0_5 fa0_5 => ?_⟩
  clear fa0_4
  have r_a0_6 : (execOp a0_5.eval { dst := some 12, op := Op.unOp UnOp.not 4 (Operand.tmp 11), type := 4, pos := "disk.go:28", after := #[{ on := 1, ground := Ground.data }], guard := none }).run Try.prog (V) = .ok (.value (.bool false)) (V) := by
    have e11 := (show a0_5.eval (.tmp 11) = .bool true from (fa0_5.at_ 11))
    clear fa0_5 ha hpg hr hw0
    generalize a0_5.eval = ρ at *
    go_simp
  refine fa0_5.step 12 (.bool false) rfl (lb_ hsz) (wanted_none rfl) r_a0_6 (fun a0_6 fa0_6 => ?_)
  clear r_a0_6
  clear fa0_5
  refine fa0_6.move 13 (.bool false) _ (Or.inl rfl) rfl (lb_ hsz) (wanted_none rfl) (fa0_6.at_ 12) (fun a0_7 fa0_7 => ?_)
  clear fa0_6
  refine fa0_7.move 14 (.int .i64 mo) _ (Or.inl rfl) rfl (lb_ hsz) ((wanted_at (t := 13) (c := false) (b := false) rfl rfl rfl (lb_ (fa0_7.size.trans hsz)) (fa0_7.at_ 13)).trans (by rfl)) ((fa0_7.at_ 1).trans (ha 1 _ rfl)) (fun a0_8 fa0_8 => ?_)
  clear fa0_7
  have r_a0_9 : (execOp a0_8.eval { dst := some 15, op := Op.binOp BinOp.lss 3 (Operand.tmp 14) (Operand.const (Value.int IntKind.i64 1)) 3, type := 4, pos := "disk.go:28", after := #[{ on := 4, ground := Ground.data }, { on := 3, ground := Ground.guard }], guard := some (3, false) }).run Try.prog (V) = .ok (.value (.bool false)) (V) := by
    have kc : ∀ v, a0_8.eval (.const v) = v := fun _ => rfl
    have e14 := (show a0_8.eval (.tmp 14) = .int .i64 mo from (fa0_8.at_ 14))
    clear fa0_8 ha hpg hr hw0
    generalize a0_8.eval = ρ at *
    go_simp
  refine fa0_8.step 15 (.bool false) rfl (lb_ hsz) ((wanted_at (t := 13) (c := false) (b := false) rfl rfl rfl (lb_ (fa0_8.size.trans hsz)) (fa0_8.at_ 13)).trans (by rfl)) r_a0_9 (fun a0_9 fa0_9 => ?_)
  clear r_a0_9
  clear fa0_8
  have r_a0_10 : (execOp a0_9.eval { dst := some 16, op := Op.pick (Operand.tmp 13) (Operand.const (Value.bool true)) (Operand.tmp 15), type := 4, pos := "disk.go:28", after := #[{ on := 3, ground := Ground.data }, { on := 5, ground := Ground.data }], guard := none }).run Try.prog (V) = .ok (.value (.bool false)) (V) := by
    have kc : ∀ v, a0_9.eval (.const v) = v := fun _ => rfl
    have e13 := (show a0_9.eval (.tmp 13) = .bool false from (fa0_9.at_ 13))
    have e15 := (show a0_9.eval (.tmp 15) = .bool false from (fa0_9.at_ 15))
    clear fa0_9 ha hpg hr hw0
    generalize a0_9.eval = ρ at *
    go_simp
  refine fa0_9.step 16 (.bool false) rfl (lb_ hsz) (wanted_none rfl) r_a0_10 (fun a0_10 fa0_10 => ?_)
  clear r_a0_10
  clear fa0_9
  refine fa0_10.move 17 (.bool false) _ (Or.inl rfl) rfl (lb_ hsz) (wanted_none rfl) (fa0_10.at_ 16) (fun a0_11 fa0_11 => ?_)
  clear fa0_10
  refine fa0_11.move 18 (.int .i64 mo) _ (Or.inl rfl) rfl (lb_ hsz) ((wanted_at (t := 17) (c := false) (b := false) rfl rfl rfl (lb_ (fa0_11.size.trans hsz)) (fa0_11.at_ 17)).trans (by rfl)) ((fa0_11.at_ 1).trans (ha 1 _ rfl)) (fun a0_12 fa0_12 => ?_)
  clear fa0_11
  have r_a0_13 : (execOp a0_12.eval { dst := some 19, op := Op.binOp BinOp.gtr 3 (Operand.tmp 18) (Operand.const (Value.int IntKind.i64 65536)) 3, type := 4, pos := "disk.go:28", after := #[{ on := 8, ground := Ground.data }, { on := 7, ground := Ground.guard }], guard := some (7, false) }).run Try.prog (V) = .ok (.value (.bool false)) (V) := by
    have kc : ∀ v, a0_12.eval (.const v) = v := fun _ => rfl
    have e18 := (show a0_12.eval (.tmp 18) = .int .i64 mo from (fa0_12.at_ 18))
    clear fa0_12 ha hpg hr hw0
    generalize a0_12.eval = ρ at *
    go_simp
  refine fa0_12.step 19 (.bool false) rfl (lb_ hsz) ((wanted_at (t := 17) (c := false) (b := false) rfl rfl rfl (lb_ (fa0_12.size.trans hsz)) (fa0_12.at_ 17)).trans (by rfl)) r_a0_13 (fun a0_13 fa0_13 => ?_)
  clear r_a0_13
  clear fa0_12
  have r_a0_14 : (execOp a0_13.eval { dst := some 20, op := Op.pick (Operand.tmp 17) (Operand.const (Value.bool true)) (Operand.tmp 19), type := 4, pos := "disk.go:28", after := #[{ on := 7, ground := Ground.data }, { on := 9, ground := Ground.data }], guard := none }).run Try.prog (V) = .ok (.value (.bool false)) (V) := by
    have kc : ∀ v, a0_13.eval (.const v) = v := fun _ => rfl
    have e17 := (show a0_13.eval (.tmp 17) = .bool false from (fa0_13.at_ 17))
    have e19 := (show a0_13.eval (.tmp 19) = .bool false from (fa0_13.at_ 19))
    clear fa0_13 ha hpg hr hw0
    generalize a0_13.eval = ρ at *
    go_simp
  refine fa0_13.step 20 (.bool false) rfl (lb_ hsz) (wanted_none rfl) r_a0_14 (fun a0_14 fa0_14 => ?_)
  clear r_a0_14
  clear fa0_13
  refine wpList_nil ?_
  change Code.wp _ _ _ _ _
  refine wp_cond_false (show a0_14.eval (.tmp 20) = .bool false from (fa0_14.at_ 20)) (wp_skip ?_)
  change Code.wp _ _ _ _ _
  refine wp_seq ?_
  refine wp_region_list ?_
  unfold rOV3
  have r_a0_15 : (execOp a0_14.eval { dst := some 21, op := Op.makeFunc (Go.Fn.func 13) #[] #[Operand.tmp 3], type := 43, pos := "disk.go:31", after := #[], guard := none }).run Try.prog (V) = .ok (.value (.func (.func 13) #[] #[.pointer (some ⟨w.heap.size, 0, none⟩)])) (V) := by
    have e3 := (show a0_14.eval (.tmp 3) = .pointer (some ⟨w.heap.size, 0, none⟩) from (fa0_14.at_ 3))
    clear fa0_14 ha hpg hr hw0
    generalize a0_14.eval = ρ at *
    go_simp
  refine fa0_14.step 21 (.func (.func 13) #[] #[.pointer (some ⟨w.heap.size, 0, none⟩)]) rfl (lb_ hsz) (wanted_none rfl) r_a0_15 (fun a0_15 fa0_15 => ?_)
  clear r_a0_15
  clear fa0_14
  refine fa0_15.move 8 (.func (.func 13) #[] #[.pointer (some ⟨w.heap.size, 0, none⟩)]) _ (Or.inr rfl) rfl (lb_ hsz) (wanted_none rfl) (fa0_15.at_ 21) (fun a0_16 fa0_16 => ?_)
  clear fa0_15
  refine wpList_nil ?_
  change Code.wp _ _ _ _ _
  refine wp_seq (wp_seq ?_)
  refine wp_region_list ?_
  unfold rOV4
  refine fa0_16.move 22 (.slice ia L.length ic) _ (Or.inl rfl) rfl (lb_ hsz) (wanted_none rfl) ((fa0_16.at_ 2).trans (ha 2 _ rfl)) (fun a0_17 fa0_17 => ?_)
  clear fa0_16
  have r_a0_18 : (execOp a0_17.eval { dst := some 23, op := Op.call { callee := Callee.builtin Builtin.len, args := #[Operand.tmp 22], argTypes := #[22] }, type := 3, pos := "disk.go:32", after := #[{ on := 0, ground := Ground.data }], guard := none }).run Try.prog (V) = .ok (.value (.int .i64 (L.length : Int))) (V) := by
    have e22 := (show a0_17.eval (.tmp 22) = .slice ia L.length ic from (fa0_17.at_ 22))
    clear fa0_17 ha hpg hr hw0
    generalize a0_17.eval = ρ at *
    go_simp
  refine fa0_17.step 23 (.int .i64 (L.length : Int)) rfl (lb_ hsz) (wanted_none rfl) r_a0_18 (fun a0_18 fa0_18 => ?_)
  clear r_a0_18
  clear fa0_17
  refine fa0_18.move 24 (.int .i64 mo) _ (Or.inl rfl) rfl (lb_ hsz) (wanted_none rfl) ((fa0_18.at_ 1).trans (ha 1 _ rfl)) (fun a0_19 fa0_19 => ?_)
  clear fa0_18
  have r_a0_20 : (execOp a0_19.eval { dst := some 25, op := Op.binOp BinOp.gtr 3 (Operand.tmp 23) (Operand.tmp 24) 3, type := 4, pos := "disk.go:32", after := #[{ on := 1, ground := Ground.data }, { on := 2, ground := Ground.data }], guard := none }).run Try.prog (V) = .ok (.value (.bool false)) (V) := by
    have e23 := (show a0_19.eval (.tmp 23) = .int .i64 (L.length : Int) from (fa0_19.at_ 23))
    have e24 := (show a0_19.eval (.tmp 24) = .int .i64 mo from (fa0_19.at_ 24))
    clear fa0_19 ha hpg hr hw0
    generalize a0_19.eval = ρ at *
    go_simp
  refine fa0_19.step 25 (.bool false) rfl (lb_ hsz) (wanted_none rfl) r_a0_20 (fun a0_20 fa0_20 => ?_)
  clear r_a0_20
  clear fa0_19
  refine fa0_20.move 26 (.bool false) _ (Or.inl rfl) rfl (lb_ hsz) (wanted_none rfl) (fa0_20.at_ 25) (fun a0_21 fa0_21 => ?_)
  clear fa0_20
  refine fa0_21.move 27 (.slice ia L.length ic) _ (Or.inl rfl) rfl (lb_ hsz) ((wanted_at (t := 26) (c := false) (b := false) rfl rfl rfl (lb_ (fa0_21.size.trans hsz)) (fa0_21.at_ 26)).trans (by rfl)) ((fa0_21.at_ 2).trans (ha 2 _ rfl)) (fun a0_22 fa0_22 => ?_)
  clear fa0_21
  refine fa0_22.move 28 (.func (.func 13) #[] #[.pointer (some ⟨w.heap.size, 0, none⟩)]) _ (Or.inl rfl) rfl (lb_ hsz) ((wanted_at (t := 26) (c := false) (b := false) rfl rfl rfl (lb_ (fa0_22.size.trans hsz)) (fa0_22.at_ 26)).trans (by rfl)) (fa0_22.at_ 8) (fun a0_23 fa0_23 => ?_)
  clear fa0_22
  have r_a0_24 : (execOp a0_23.eval { dst := some 29, op := Op.call { callee := Callee.value (Operand.func 14), args := #[Operand.tmp 27, Operand.tmp 28], argTypes := #[22, 43] }, type := 4, pos := "disk.go:32", after := #[{ on := 5, ground := Ground.data }, { on := 6, ground := Ground.data }, { on := 4, ground := Ground.chain }, { on := 4, ground := Ground.guard }], guard := some (4, false) }).run Try.prog (V) = .ok (.enter 14 #[.slice ia L.length ic, .func (.func 13) #[] #[.pointer (some ⟨w.heap.size, 0, none⟩)]]) (V) := by
    have kf : ∀ f, a0_23.eval (.func f) = .func (.func f) #[] #[] := fun _ => rfl
    have e27 := (show a0_23.eval (.tmp 27) = .slice ia L.length ic from (fa0_23.at_ 27))
    have e28 := (show a0_23.eval (.tmp 28) = .func (.func 13) #[] #[.pointer (some ⟨w.heap.size, 0, none⟩)] from (fa0_23.at_ 28))
    clear fa0_23 ha hpg hr hw0
    generalize a0_23.eval = ρ at *
    go_simp
  refine fa0_23.call 29 rfl (lb_ hsz) ((wanted_at (t := 26) (c := false) (b := false) rfl rfl rfl (lb_ (fa0_23.size.trans hsz)) (fa0_23.at_ 26)).trans (by rfl)) r_a0_24 (by have hC := contains_size (cp := ic) V (hr.same sV) (by omega) k0; rw [hw0] at hC; exact hC) (fun e V0 hR => ?_)
  obtain ⟨rfl, sC⟩ := hR
  clear r_a0_24
  have sV := sV.trans sC
  have k0 := sC.keep k0
  refine ⟨_, rfl, fun a0_24 fa0_24 => ?_⟩
  clear fa0_23
  have r_a0_25 : (execOp a0_24.eval { dst := some 30, op := Op.pick (Operand.tmp 26) (Operand.const (Value.bool true)) (Operand.tmp 29), type := 4, pos := "disk.go:32", after := #[{ on := 4, ground := Ground.data }, { on := 7, ground := Ground.data }], guard := none }).run Try.prog (V0) = .ok (.value (.bool false)) (V0) := by
    have kc : ∀ v, a0_24.eval (.const v) = v := fun _ => rfl
    have e26 := (show a0_24.eval (.tmp 26) = .bool false from (fa0_24.at_ 26))
    have e29 := (show a0_24.eval (.tmp 29) = .bool false from (fa0_24.at_ 29))
    clear fa0_24 ha hpg hr hw0
    generalize a0_24.eval = ρ at *
    go_simp
  refine fa0_24.step 30 (.bool false) rfl (lb_ hsz) (wanted_none rfl) r_a0_25 (fun a0_25 fa0_25 => ?_)
  clear r_a0_25
  clear fa0_24
  refine wpList_nil ?_
  change Code.wp _ _ _ _ _
  refine wp_cond_false (show a0_25.eval (.tmp 30) = .bool false from (fa0_25.at_ 30)) (wp_skip ?_)
  change Code.wp _ _ _ _ _
  refine wp_seq ?_
  refine wp_region_list ?_
  unfold rOV6
  have r_a0_26 : (execOp a0_25.eval { dst := some 31, op := Op.load 3 (Operand.tmp 3), type := 3, pos := "disk.go:35", after := #[], guard := none }).run Try.prog (V0) = .ok (.value (.int .i64 pg)) (V0) := by
    have e3 := (show a0_25.eval (.tmp 3) = .pointer (some ⟨w.heap.size, 0, none⟩) from (fa0_25.at_ 3))
    clear fa0_25 ha hpg hr hw0
    generalize a0_25.eval = ρ at *
    go_simp
  refine fa0_25.step 31 (.int .i64 pg) rfl (lb_ hsz) (wanted_none rfl) r_a0_26 (fun a0_26 fa0_26 => ?_)
  clear r_a0_26
  clear fa0_25
  refine fa0_26.move 32 (.slice ia L.length ic) _ (Or.inl rfl) rfl (lb_ hsz) (wanted_none rfl) ((fa0_26.at_ 2).trans (ha 2 _ rfl)) (fun a0_27 fa0_27 => ?_)
  clear fa0_26
  have r_a0_28 : (execOp a0_27.eval { dst := some 33, op := Op.build 46 #[(0, Operand.tmp 31), (1, Operand.tmp 32)], type := 46, pos := "disk.go:35", after := #[{ on := 0, ground := Ground.data }, { on := 1, ground := Ground.data }], guard := none }).run Try.prog (V0) = .ok (.value (.agg #[.int .i64 pg, .slice ia L.length ic])) (V0) := by
    have e31 := (show a0_27.eval (.tmp 31) = .int .i64 pg from (fa0_27.at_ 31))
    have e32 := (show a0_27.eval (.tmp 32) = .slice ia L.length ic from (fa0_27.at_ 32))
    clear fa0_27 ha hpg hr hw0
    generalize a0_27.eval = ρ at *
    go_simp
  refine fa0_27.step 33 (.agg #[.int .i64 pg, .slice ia L.length ic]) rfl (lb_ hsz) (wanted_none rfl) r_a0_28 (fun a0_28 fa0_28 => ?_)
  clear r_a0_28
  clear fa0_27
  have r_a0_29 : (execOp a0_28.eval { dst := some 9, op := Op.alloc 46, type := 0, pos := "disk.go:35", after := #[], guard := none }).run Try.prog (V0) = .ok (.value (.pointer (some ⟨V0.heap.size, 0, none⟩))) (V0.alloc (.cells #[.int .i64 0, .slice none 0 0] 46)) := by
    clear fa0_28 ha hpg hr hw0
    generalize a0_28.eval = ρ at *
    go_simp
  refine fa0_28.stepW 9 (.pointer (some ⟨V0.heap.size, 0, none⟩)) rfl (lb_ hsz) (wanted_none rfl) r_a0_29 (fun a0_29 fa0_29 => ?_)
  clear r_a0_29
  have s1 : Same V0 (V0.alloc (.cells #[.int .i64 0, .slice none 0 0] 46)) := (Fr.refl _ V0).alloc _
  have r1 : (V0.alloc (.cells #[.int .i64 0, .slice none 0 0] 46)).heap[V0.heap.size]? = some (.cells #[.int .i64 0, .slice none 0 0] 46 (0, 0)) := heap_alloc_new V0 _
  generalize V0.alloc (.cells #[.int .i64 0, .slice none 0 0] 46) = V1 at *
  clear fa0_28
  have r_a0_30 : (execOp a0_29.eval { dst := none, op := Op.store 46 (Operand.tmp 9) (Operand.tmp 33), type := 0, pos := "disk.go:35", after := #[{ on := 3, ground := Ground.data }, { on := 2, ground := Ground.data }, { on := 0, ground := Ground.phase }, { on := 1, ground := Ground.phase }, { on := 2, ground := Ground.phase }, { on := 3, ground := Ground.phase }], guard := none }).run Try.prog (V1) = .ok .skip (World.setCells V1 V0.heap.size 0 [.int .i64 pg, .slice ia L.length ic]) := by
    exact exec_store_mid 46 _ _ rfl V0.heap.size 0 #[.int .i64 pg, .slice ia L.length ic] (show a0_29.eval (.tmp 9) = .pointer (some ⟨V0.heap.size, 0, none⟩) from (fa0_29.at_ 9)) (show a0_29.eval (.tmp 33) = .agg #[.int .i64 pg, .slice ia L.length ic] from (fa0_29.at_ 33)) (there_row r1 rfl) (by kernel_rfl) (by kernel_rfl)
  refine fa0_29.store rfl (wanted_none rfl) r_a0_30 (fun a0_30 fa0_30 => ?_)
  clear r_a0_30
  have r2 : (World.setCells V1 V0.heap.size 0 [.int .i64 pg, .slice ia L.length ic]).heap[V0.heap.size]? = some (.cells #[.int .i64 pg, .slice ia L.length ic] 46 (0, 0)) := setCells_whole [.int .i64 pg, .slice ia L.length ic] _ r1 rfl (there_row r1 rfl)
  have s2 : Same V0 (World.setCells V1 V0.heap.size 0 [.int .i64 pg, .slice ia L.length ic]) := Fr.trans s1 (Fr.setCells (S := fun k => k = V0.heap.size) (fun _ => rfl) _ 0 V1 (Fr.refl _ V1)) (fun k hk e => by have e2 : k = V0.heap.size := e; omega)
  generalize World.setCells V1 V0.heap.size 0 [.int .i64 pg, .slice ia L.length ic] = V2 at *
  have q0 : V2.cell? ⟨V0.heap.size, 0, none⟩ = some (.int .i64 pg) := (cell_of_row _ _ _ _ _ _ r2).trans rfl
  have q1 : V2.cell? ⟨V0.heap.size, 0 + 1, none⟩ = some (.slice ia L.length ic) := (cell_of_row _ _ _ _ _ _ r2).trans rfl
  have hT0 := (hr.same sV).same s2
  clear fa0_29
  refine wpList_nil ?_
  change Code.wp _ _ _ _ _
  refine wp_seq ?_
  refine wp_region_list ?_
  unfold rOV7
  have r_a0_31 : (execOp a0_30.eval { dst := some 34, op := Op.call { callee := Callee.value (Operand.func 15), args := #[Operand.tmp 9], argTypes := #[46] }, type := 46, pos := "disk.go:36", after := #[], guard := none }).run Try.prog (V2) = .ok (.enter 15 #[.pointer (some ⟨V0.heap.size, 0, none⟩)]) (V2) := by
    have kf : ∀ f, a0_30.eval (.func f) = .func (.func f) #[] #[] := fun _ => rfl
    have e9 := (show a0_30.eval (.tmp 9) = .pointer (some ⟨V0.heap.size, 0, none⟩) from (fa0_30.at_ 9))
    clear fa0_30 ha hpg hr hw0 hT0
    generalize a0_30.eval = ρ at *
    go_simp
  refine fa0_30.call 34 rfl (lb_ hsz) (wanted_none rfl) r_a0_31 (sclone_calls (o := 0) V2 q0 q1 hT0 hl) (fun e X1 hR => ?_)
  obtain ⟨a1, c1, rfl, o1, t1⟩ := hR
  clear r_a0_31
  refine ⟨_, rfl, fun a0_31 fa0_31 => ?_⟩
  clear fa0_30
  have r_a0_32 : (execOp a0_31.eval { dst := some 35, op := Op.call { callee := Callee.value (Operand.func 15), args := #[Operand.tmp 9], argTypes := #[46] }, type := 46, pos := "disk.go:36", after := #[{ on := 0, ground := Ground.chain }], guard := none }).run Try.prog (X1) = .ok (.enter 15 #[.pointer (some ⟨V0.heap.size, 0, none⟩)]) (X1) := by
    have kf : ∀ f, a0_31.eval (.func f) = .func (.func f) #[] #[] := fun _ => rfl
    have e9 := (show a0_31.eval (.tmp 9) = .pointer (some ⟨V0.heap.size, 0, none⟩) from (fa0_31.at_ 9))
    clear fa0_31 ha hpg hr hw0 hT0
    generalize a0_31.eval = ρ at *
    go_simp
  refine fa0_31.call 35 rfl (lb_ hsz) (wanted_none rfl) r_a0_32 (sclone_calls (o := 0) X1 (t1.keep q0) (t1.keep q1) (hT0.same t1) hl) (fun e X2 hR => ?_)
  obtain ⟨a2, c2, rfl, o2, t2⟩ := hR
  clear r_a0_32
  refine ⟨_, rfl, fun a0_32 fa0_32 => ?_⟩
  clear fa0_31
  refine fa0_32.move 36 (.int .i64 mo) _ (Or.inl rfl) rfl (lb_ hsz) (wanted_none rfl) ((fa0_32.at_ 1).trans (ha 1 _ rfl)) (fun a0_33 fa0_33 => ?_)
  clear fa0_32
  have r_a0_34 : (execOp a0_33.eval { dst := some 37, op := Op.build 51 #[(0, Operand.tmp 34), (1, Operand.tmp 35), (2, Operand.tmp 36)], type := 51, pos := "disk.go:36", after := #[{ on := 0, ground := Ground.data }, { on := 1, ground := Ground.data }, { on := 2, ground := Ground.data }], guard := none }).run Try.prog (X2) = .ok (.value (.agg #[.int .i64 pg, .slice a1 L.length c1, .int .i64 pg, .slice a2 L.length c2, .int .i64 mo, .bool false, .slice none 0 0, .slice none 0 0, .int .i64 0, .int .i64 0, .int .i64 0, .int .i64 0, .int .i64 0])) (X2) := by
    have e34 := (show a0_33.eval (.tmp 34) = .agg #[.int .i64 pg, .slice a1 L.length c1] from (fa0_33.at_ 34))
    have e35 := (show a0_33.eval (.tmp 35) = .agg #[.int .i64 pg, .slice a2 L.length c2] from (fa0_33.at_ 35))
    have e36 := (show a0_33.eval (.tmp 36) = .int .i64 mo from (fa0_33.at_ 36))
    clear fa0_33 ha hpg hr hw0 hT0
    generalize a0_33.eval = ρ at *
    go_simp
  refine fa0_33.step 37 (.agg #[.int .i64 pg, .slice a1 L.length c1, .int .i64 pg, .slice a2 L.length c2, .int .i64 mo, .bool false, .slice none 0 0, .slice none 0 0, .int .i64 0, .int .i64 0, .int .i64 0, .int .i64 0, .int .i64 0]) rfl (lb_ hsz) (wanted_none rfl) r_a0_34 (fun a0_34 fa0_34 => ?_)
  clear r_a0_34
  clear fa0_33
  have r_a0_35 : (execOp a0_34.eval { dst := some 38, op := Op.box 51 (Operand.tmp 37), type := 27, pos := "disk.go:36", after := #[{ on := 3, ground := Ground.data }], guard := none }).run Try.prog (X2) = .ok (.value (.pointer (some ⟨X2.heap.size, 0, none⟩))) (World.alloc X2 (.cells #[.int .i64 pg, .slice a1 L.length c1, .int .i64 pg, .slice a2 L.length c2, .int .i64 mo, .bool false, .slice none 0 0, .slice none 0 0, .int .i64 0, .int .i64 0, .int .i64 0, .int .i64 0, .int .i64 0] 51)) := by
    have e37 := (show a0_34.eval (.tmp 37) = .agg #[.int .i64 pg, .slice a1 L.length c1, .int .i64 pg, .slice a2 L.length c2, .int .i64 mo, .bool false, .slice none 0 0, .slice none 0 0, .int .i64 0, .int .i64 0, .int .i64 0, .int .i64 0, .int .i64 0] from (fa0_34.at_ 37))
    clear fa0_34 ha hpg hr hw0 hT0
    generalize a0_34.eval = ρ at *
    go_simp
  refine fa0_34.stepW 38 (.pointer (some ⟨X2.heap.size, 0, none⟩)) rfl (lb_ hsz) (wanted_none rfl) r_a0_35 (fun a0_35 fa0_35 => ?_)
  clear r_a0_35
  have t3 : Same X2 (World.alloc X2 (.cells #[.int .i64 pg, .slice a1 L.length c1, .int .i64 pg, .slice a2 L.length c2, .int .i64 mo, .bool false, .slice none 0 0, .slice none 0 0, .int .i64 0, .int .i64 0, .int .i64 0, .int .i64 0, .int .i64 0] 51)) := (Fr.refl _ X2).alloc _
  have r3 : (World.alloc X2 (.cells #[.int .i64 pg, .slice a1 L.length c1, .int .i64 pg, .slice a2 L.length c2, .int .i64 mo, .bool false, .slice none 0 0, .slice none 0 0, .int .i64 0, .int .i64 0, .int .i64 0, .int .i64 0, .int .i64 0] 51)).heap[X2.heap.size]? = some (.cells #[.int .i64 pg, .slice a1 L.length c1, .int .i64 pg, .slice a2 L.length c2, .int .i64 mo, .bool false, .slice none 0 0, .slice none 0 0, .int .i64 0, .int .i64 0, .int .i64 0, .int .i64 0, .int .i64 0] 51 (0, 0)) := heap_alloc_new X2 _
  generalize World.alloc X2 (.cells #[.int .i64 pg, .slice a1 L.length c1, .int .i64 pg, .slice a2 L.length c2, .int .i64 mo, .bool false, .slice none 0 0, .slice none 0 0, .int .i64 0, .int .i64 0, .int .i64 0, .int .i64 0, .int .i64 0] 51) = X3 at *
  clear fa0_34
  refine fa0_35.move 6 (.pointer (some ⟨X2.heap.size, 0, none⟩)) _ (Or.inr rfl) rfl (lb_ hsz) (wanted_none rfl) (fa0_35.at_ 38) (fun a0_36 fa0_36 => ?_)
  clear fa0_35
  refine fa0_36.move 7 (.int .i64 0) _ (Or.inr rfl) rfl (lb_ hsz) (wanted_none rfl) rfl (fun a0_37 fa0_37 => ?_)
  clear fa0_36
  refine wpList_nil ?_
  change Code.wp _ _ _ _ _
  refine wp_ret ?_
  have e1 : w.heap.size ≤ V0.heap.size := sV.size
  have e2 := s2.size
  have e3 := t1.size
  have e4 := t2.size
  have e5 := lt_of_heap r3
  have z1 : ∀ k, (Value.slice a1 L.length c1).ownBlock = some k → V2.heap.size ≤ k ∧ k < X1.heap.size := fun k hk => by cases a1 with | none => cases hk | some z => exact (by have := own_ge o1; simp [Value.ownBlock] at hk; omega)
  have z2 : ∀ k, (Value.slice a2 L.length c2).ownBlock = some k → X1.heap.size ≤ k ∧ k < X2.heap.size := fun k hk => by cases a2 with | none => cases hk | some z => exact (by have := own_ge o2; simp [Value.ownBlock] at hk; omega)
  refine bodyPost_ret (results_tmp2 rfl _ _ _) (fa0_37.defers.trans hd) ?_
  obtain ⟨pn, rfl⟩ := Int.eq_ofNat_of_zero_le (show 0 ≤ pg by omega)
  obtain ⟨mn, rfl⟩ := Int.eq_ofNat_of_zero_le (show 0 ≤ mo by omega)
  refine ⟨X2.heap.size, congrArg Ending.returned ?_, ⟨⟨a1, a2, none, none, c1, c2, 0, 0, r3, ?_, ?_, own_nil, ?_, ?_, ?_, ?_⟩, ⟨by omega, e5⟩, fun k hk => hk.2⟩, ((sV.trans s2).trans (t1.trans t2)).trans t3⟩
  · show Value.tuple #[a0_37.eval (.tmp 6), a0_37.eval (.tmp 7)] = _
    rw [(show a0_37.eval (.tmp 6) = .pointer (some ⟨X2.heap.size, 0, none⟩) from (fa0_37.at_ 6)), (show a0_37.eval (.tmp 7) = .int .i64 0 from (fa0_37.at_ 7))]
  · exact own_base (own_frameB o1 (t2.trans t3) (fun _ _ f => f)) (Nat.zero_le _)
  · exact own_base (own_frameB o2 t3 (fun _ _ f => f)) (Nat.zero_le _)
  · intro k hk; have := z1 k hk; exact ⟨by omega, by omega⟩
  · intro k hk; have := z2 k hk; exact ⟨by omega, by omega⟩
  · intro k hk; cases hk
  · intro k hk hk2; have := z1 k hk; have := z2 k hk2; omega
theorem from_bad {pg mo : Int} {ia : Option Addr} {ic : Nat} {L : List ByteArray} (w : World) (hb : ¬ ((pg = 1024 ∨ pg = 2048 ∨ pg = 4096 ∨ pg = 8192) ∧ 1 ≤ mo ∧ mo ≤ 65536)) :
    Calls Try.prog 5 #[.int .i64 pg, .int .i64 mo, .slice ia L.length ic] w fun e w' => e = .returned (.tuple #[.pointer none, .int .i64 2]) ∧ Same w w' := by
  by_cases h1 : pg = 1024 ∨ pg = 2048 ∨ pg = 4096 ∨ pg = 8192
  · by_cases h2 : mo < 1
    · exact from_least w h1 h2
    · exact from_most w h1 (by
        by_cases h3 : mo ≤ 65536
        · exact absurd ⟨h1, by omega, h3⟩ hb
        · omega)
  · exact from_page w h1
set_option maxRecDepth 100000 in
theorem new_bad {pg mo : Int} (w : World) (hb : ¬ ((pg = 1024 ∨ pg = 2048 ∨ pg = 4096 ∨ pg = 8192) ∧ 1 ≤ mo ∧ mo ≤ 65536)) :
    Calls Try.prog 6 #[.int .i64 pg, .int .i64 mo] w fun e w' => e = .returned (.tuple #[.pointer none, .int .i64 2]) ∧ Same w w' := by
  have hF : Calls Try.prog 5 #[.int .i64 pg, .int .i64 mo, .slice none 0 0] w fun e w' => e = .returned (.tuple #[.pointer none, .int .i64 2]) ∧ Same w w' := from_bad (L := []) w hb
  clear hb
  go_enter Try.func6, Try.ntmps6
  go_wp2_with fail
  refine hF.mono ?_
  rintro e W ⟨rfl, s⟩
  clear hF
  go_wp2_with fail
  go_ret2
  exact ⟨rfl, s⟩
end Go.Proofs.Ytljlkcmjbjnihaa
