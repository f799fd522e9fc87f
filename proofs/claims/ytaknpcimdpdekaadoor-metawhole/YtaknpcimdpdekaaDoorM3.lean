/- rooted, Check. -/
import Derived.Test.YtaknpcimdpdekaaDoorM2
namespace Go.Proofs.YtaknpcimdpdekaaDoor
open Go.RowKit

theorem Tryd.infoR : (Tryd.prog.info? 32).map (·.size) = some 35 := by kernel_rfl
theorem Tryd.infoM : (Tryd.prog.info? 34).map (·.size) = some 38 := by kernel_rfl
theorem root_length (m : Rec) (h : m.d.length = 32) : m.root.length = 35 := by simp [Rec.root, bcells_length, h]
theorem root_one (m : Rec) : ∀ x ∈ m.root, x.oneCell' = true := by
  intro x hx
  simp only [Rec.root, List.mem_cons, List.mem_append, bcells, List.mem_map, List.not_mem_nil, or_false] at hx
  rcases hx with rfl | ⟨b, _, rfl⟩ | rfl | rfl <;> rfl

theorem fold_put (o : Nat) (l : List Value) : ∀ (k : Nat) (pre mid post : List Value), pre.length = o + k → mid.length = l.length → List.foldl (fun (cs : Array Value) (x : Value × Nat) => cs.setIfInBounds (o + x.snd) x.fst) (pre ++ (mid ++ post)).toArray (l.zipIdx k) = (pre ++ (l ++ post)).toArray := by
  induction l with
  | nil => intro k pre mid post _ h; rw [List.length_nil, List.length_eq_zero_iff] at h; subst h; rfl
  | cons x l ih =>
    intro k pre mid post hp hm
    match mid, hm with
    | y :: mid, hm =>
      rw [List.zipIdx_cons, List.foldl_cons]
      have e : ((pre ++ (y :: mid ++ post)).toArray.setIfInBounds (o + k) x) = ((pre ++ [x]) ++ (mid ++ post)).toArray := by
        rw [List.setIfInBounds_toArray, List.set_append_right _ _ (by omega), ← hp, Nat.sub_self]; simp
      simp only
      rw [e, ih (k + 1) (pre ++ [x]) mid post (by simp; omega) (by simpa using hm)]
      simp
def rootOnly (d : List UInt8) : Rec := ⟨0, 0, d, 0, 0, 0, 0⟩
theorem root_laid (d : List UInt8) (hd : d.length = 32) : List.foldl (fun (cs : Array Value) (x : Value × Nat) => cs.setIfInBounds (1 + x.snd) x.fst) #[Value.int .u32 0, Value.int .u8 0, Value.int .u8 0, Value.int .u8 0, Value.int .u8 0, Value.int .u8 0, Value.int .u8 0, Value.int .u8 0, Value.int .u8 0, Value.int .u8 0, Value.int .u8 0, Value.int .u8 0, Value.int .u8 0, Value.int .u8 0, Value.int .u8 0, Value.int .u8 0, Value.int .u8 0, Value.int .u8 0, Value.int .u8 0, Value.int .u8 0, Value.int .u8 0, Value.int .u8 0, Value.int .u8 0, Value.int .u8 0, Value.int .u8 0, Value.int .u8 0, Value.int .u8 0, Value.int .u8 0, Value.int .u8 0, Value.int .u8 0, Value.int .u8 0, Value.int .u8 0, Value.int .u8 0, Value.int .u64 0, Value.int .u64 0] (bcells d).zipIdx = (rootOnly d).root.toArray := by
  have h := fold_put 1 (bcells d) 0 [Value.int .u32 0] (bcells (List.replicate 32 0)) [Value.int .u64 0, Value.int .u64 0] rfl (by rw [bcells_length, bcells_length, hd]; rfl)
  exact h

set_option maxRecDepth 100000 in
set_option maxHeartbeats 1000000 in
theorem rooted_calls (p q : Int) (m : Rec) (hm : m.d.length = 32) (w : World) : Calls Tryd.prog 31 #[frameV p q, metaV m] w fun e w' => e = .returned (.bool (rootP q m)) ∧ Same w w' := by
  have sx : Same w ((w.alloc (.cells #[.int .i64 p, .int .i64 q] 23)).alloc (.cells m.arr 34)) := ((Fr.refl _ w).alloc _).alloc _
  have hA : MAt ((w.alloc (.cells #[.int .i64 p, .int .i64 q] 23)).alloc (.cells m.arr 34)) (w.heap.size + 1) m := heap_alloc2_new w _ _
  have c1 : ((w.alloc (.cells #[.int .i64 p, .int .i64 q] 23)).alloc (.cells m.arr 34)).cell? ⟨w.heap.size, 1, none⟩ = some (.int .i64 q) := by simp
  have HF : Hid (∀ W, Calls Tryd.prog 55 #[.int .i64 q, .agg (bcells m.d).toArray] W fun e w' => e = .returned (.bool (fitsP q m.d)) ∧ Same W w') := fun W => fits_calls W q m.d hm
  have cS := hA.sum
  have hDl : (Tryd.prog.info? 30).map (·.size) = some (bcells m.d).length := by rw [Tryd.ainfoD, bcells_length, hm]
  have HA : Hid (MAt ((w.alloc (.cells #[.int .i64 p, .int .i64 q] 23)).alloc (.cells m.arr 34)) (w.heap.size + 1) m) := hA
  clear hA
  have hP : rootP q m = (fitsP q m.d && (if m.rp = 0 then decide (m.c = 0 ∧ m.rv = 0) else decide (0 < m.c ∧ 1 ≤ m.rv ∧ m.rv ≤ m.v))) := rfl
  rw [hP]
  clear hP
  generalize fitsP q m.d = bf at *
  cases bf
  · rw [Bool.false_and]
    go_enter Tryd.func31, Tryd.ntmps31
    go_wp2_with (first | (refine wpList_load_mid (by rfl) 30 _ (by rfl) (w.heap.size + 1) 2 (by rfl) (bcells m.d) _ cS Tryd.underlying30 rfl hDl ?_))
    refine (HF.out _).mono ?_
    rintro e W1 ⟨rfl, s1⟩
    have hA1 := MAt.same (m := m) HA.out s1
    have t1 := sx.trans s1
    clear sx s1 HA cS c1
    go_wp2_with fail
    go_ret
    exact ⟨rfl, t1⟩
  · rw [Bool.true_and]
    by_cases h0 : m.rp = 0
    · rw [if_pos h0]
      go_enter Tryd.func31, Tryd.ntmps31
      go_wp2_with (first | (refine wpList_load_mid (by rfl) 30 _ (by rfl) (w.heap.size + 1) 2 (by rfl) (bcells m.d) _ cS Tryd.underlying30 rfl hDl ?_))
      refine (HF.out _).mono ?_
      rintro e W1 ⟨rfl, s1⟩
      have hA1 := MAt.same (m := m) HA.out s1
      have t1 := sx.trans s1
      clear sx s1 HA cS c1
      obtain ⟨k00, k01, k34, k35, k36, k37⟩ := hA1.cells hm
      have k01' : W1.cell? ⟨w.heap.size + 1, 1, none⟩ = some (.int .u32 0) := by rw [k01, h0]; rfl
      have hR := hA1.root
      have hS := hA1.sum
      have hRl : (Tryd.prog.info? 32).map (·.size) = some m.root.length := by rw [Tryd.infoR, root_length m hm]
      have hE : ∀ W, (Op.equalIn 10000 32 (.agg m.root.toArray) (.agg (rootOnly m.d).root.toArray)).run Tryd.prog W = .ok (decide (m.c = 0 ∧ m.rv = 0)) W := by
        intro W
        rw [eq_root_10000 W m (rootOnly m.d) hm hm]
        congr 1
        unfold rootEq rootOnly
        rw [Bool.eq_iff_iff]
        simp [h0]
      have hC := root_laid m.d hm
      obtain ⟨bb, hbb⟩ : ∃ bb, bb = decide (m.c = 0 ∧ m.rv = 0) := ⟨_, rfl⟩
      rw [← hbb] at hE
      have HB : Hid (bb = decide (m.c = 0 ∧ m.rv = 0)) := hbb
      have hBl : (bcells m.d).length = 32 := by rw [bcells_length, hm]
      clear hbb k01 hA1 k00 k34 k35 k36 k37
      generalize m.arr = A at *
      generalize (rootOnly m.d).root.toArray = RB at *
      generalize m.root = RA at *
      generalize bcells m.d = BD at *
      go_wp2_with (first | (refine wpList_load_mid (by rfl) 30 _ (by rfl) (w.heap.size + 1) 2 (by rfl) BD _ hS Tryd.underlying30 rfl hDl ?_) | (refine wpList_load_mid (by rfl) 32 _ (by rfl) (w.heap.size + 1) 1 (by rfl) RA _ hR Tryd.underlying32 rfl hRl ?_))
      go_ret
      exact ⟨by rw [← HB.out]; rfl, t1⟩
    · rw [if_neg h0]
      go_enter Tryd.func31, Tryd.ntmps31
      go_wp2_with (first | (refine wpList_load_mid (by rfl) 30 _ (by rfl) (w.heap.size + 1) 2 (by rfl) (bcells m.d) _ cS Tryd.underlying30 rfl hDl ?_))
      refine (HF.out _).mono ?_
      rintro e W1 ⟨rfl, s1⟩
      have hA1 := MAt.same (m := m) HA.out s1
      have t1 := sx.trans s1
      clear sx s1 HA cS c1
      obtain ⟨k00, k01, k34, k35, k36, k37⟩ := hA1.cells hm
      have g0 : ((m.rp : Int) == 0) = false := by rw [beq_eq_false_iff_ne]; omega
      clear hA1
      generalize m.arr = A at *
      by_cases h1 : 0 < m.c
      · have g1 : (0 : Int) < (m.c : Int) := by omega
        by_cases h2 : 1 ≤ m.rv
        · have g2 : (1 : Int) ≤ (m.rv : Int) := by omega
          by_cases h3 : m.rv ≤ m.v
          · have g3 : (m.rv : Int) ≤ (m.v : Int) := by omega
            have e : decide (0 < m.c ∧ 1 ≤ m.rv ∧ m.rv ≤ m.v) = true := decide_eq_true ⟨h1, h2, h3⟩
            go_wp2_with fail
            go_ret
            first | exact ⟨by rw [e]; rfl, t1⟩ | exact ⟨rfl, t1⟩
          · have g3 : ¬ (m.rv : Int) ≤ (m.v : Int) := by omega
            have e : decide (0 < m.c ∧ 1 ≤ m.rv ∧ m.rv ≤ m.v) = false := decide_eq_false (by omega)
            go_wp2_with fail
            go_ret
            first | exact ⟨by rw [e]; rfl, t1⟩ | exact ⟨rfl, t1⟩
        · have g2 : ¬ (1 : Int) ≤ (m.rv : Int) := by omega
          have e : decide (0 < m.c ∧ 1 ≤ m.rv ∧ m.rv ≤ m.v) = false := decide_eq_false (by omega)
          go_wp2_with fail
          go_ret
          first | exact ⟨by rw [e]; rfl, t1⟩ | exact ⟨rfl, t1⟩
      · have g1 : ¬ (0 : Int) < (m.c : Int) := by omega
        have e : decide (0 < m.c ∧ 1 ≤ m.rv ∧ m.rv ≤ m.v) = false := decide_eq_false (by omega)
        go_wp2_with fail
        go_ret
        first | exact ⟨by rw [e]; rfl, t1⟩ | exact ⟨rfl, t1⟩

set_option maxRecDepth 100000 in
set_option maxHeartbeats 1000000 in
theorem check_calls (p q : Int) (m : Rec) (hm : m.d.length = 32) (w : World) : Calls Tryd.prog 16 #[frameV p q, metaV m] w fun e w' => e = .returned (.int .i64 (chkM p q m)) ∧ Same w w' := by
  have HF : Hid (∀ W, Calls Tryd.prog 17 #[frameV p q] W fun e w' => e = .returned (.bool (frameP p q)) ∧ Same W w') := framed_calls p q
  have HN : Hid (∀ W, Calls Tryd.prog 30 #[metaV m] W fun e w' => e = .returned (.bool (numP m)) ∧ Same W w') := numbered_calls m hm
  have HR : Hid (∀ W, Calls Tryd.prog 31 #[frameV p q, metaV m] W fun e w' => e = .returned (.bool (rootP q m)) ∧ Same W w') := rooted_calls p q m hm
  have hE : chkM p q m = if (frameP p q && numP m && rootP q m) = true then 0 else 2 := rfl
  rw [hE]
  generalize frameP p q = b1 at *
  generalize numP m = b2 at *
  generalize rootP q m = b3 at *
  have hs : (Tryd.prog.info? 34).map (·.size) = some m.arr.size := by rw [Tryd.infoM, arr_size m hm]
  unfold metaV at *
  generalize m.arr = A at *
  clear hE hm
  have sx : Same w ((w.alloc (.cells #[.int .i64 p, .int .i64 q] 23)).alloc (.cells A 34)) := ((Fr.refl _ w).alloc _).alloc _
  have hA : ((w.alloc (.cells #[.int .i64 p, .int .i64 q] 23)).alloc (.cells A 34)).heap[w.heap.size + 1]? = some (.cells A 34 (0, 0)) := heap_alloc2_new w _ _
  have c0 : ((w.alloc (.cells #[.int .i64 p, .int .i64 q] 23)).alloc (.cells A 34)).cell? ⟨w.heap.size, 0, none⟩ = some (.int .i64 p) := by simp
  have c1 : ((w.alloc (.cells #[.int .i64 p, .int .i64 q] 23)).alloc (.cells A 34)).cell? ⟨w.heap.size, 1, none⟩ = some (.int .i64 q) := by simp
  cases b1
  · go_enter Tryd.func16, Tryd.ntmps16
    go_wp2_with fail
    refine (HF.out _).mono ?_
    rintro e W1 ⟨rfl, s1⟩
    go_wp2_with fail
    go_ret
    exact ⟨rfl, sx.trans s1⟩
  · go_enter Tryd.func16, Tryd.ntmps16
    go_wp2_with fail
    generalize ((w.alloc (.cells #[.int .i64 p, .int .i64 q] 23)).alloc (.cells A 34)) = V at *
    refine (HF.out _).mono ?_
    rintro e W1 ⟨rfl, s1⟩
    have hA1 := (s1.block _ (lt_of_heap hA) (fun f => f)).trans hA
    have c0 := s1.keep c0
    have c1 := s1.keep c1
    have t1 := sx.trans s1
    clear s1 sx hA
    cases b2
    · go_wp2_with (first | (refine wpList_load_want (by rfl) 34 _ (by rfl) (w.heap.size + 1) (by rfl) 34 A (0, 0) _ hA1 Tryd.underlying34 rfl hs ?_))
      refine (HN.out _).mono ?_
      rintro e W2 ⟨rfl, s2⟩
      go_wp2_with fail
      go_ret
      exact ⟨rfl, t1.trans s2⟩
    · go_wp2_with (first | (refine wpList_load_want (by rfl) 34 _ (by rfl) (w.heap.size + 1) (by rfl) 34 A (0, 0) _ hA1 Tryd.underlying34 rfl hs ?_))
      refine (HN.out _).mono ?_
      rintro e W2 ⟨rfl, s2⟩
      have hA2 := (s2.block _ (lt_of_heap hA1) (fun f => f)).trans hA1
      have c0 := s2.keep c0
      have c1 := s2.keep c1
      have t2 := t1.trans s2
      clear s2 t1 hA1
      cases b3
      · go_wp2_with (first | (refine wpList_load_want (by rfl) 34 _ (by rfl) (w.heap.size + 1) (by rfl) 34 A (0, 0) _ hA2 Tryd.underlying34 rfl hs ?_))
        refine (HR.out _).mono ?_
        rintro e W3 ⟨rfl, s3⟩
        go_wp2_with fail
        go_ret
        exact ⟨rfl, t2.trans s3⟩
      · go_wp2_with (first | (refine wpList_load_want (by rfl) 34 _ (by rfl) (w.heap.size + 1) (by rfl) 34 A (0, 0) _ hA2 Tryd.underlying34 rfl hs ?_))
        refine (HR.out _).mono ?_
        rintro e W3 ⟨rfl, s3⟩
        go_wp2_with fail
        go_ret
        exact ⟨rfl, t2.trans s3⟩
end Go.Proofs.YtaknpcimdpdekaaDoor
