/-
  Walks: Cut, Of.
-/
import Derived.Test.YtnoicjpmfchhiaaDoorSD
import Derived.Laws.ResultCell
namespace Go.Proofs.YtnoicjpmfchhiaaDoor
open Go.RowKit

theorem results_row_tmp {P : Program} {fn : Func} {p u : Tmp} {ty : TypeId} (h : fn.results = #[.cell p ty, .tmp u]) (tmps : Array Value) (w : World) (g : Nat) (t : TypeId) (cs : Array Value) (fr : Nat × Nat) (d : TypeDesc)
    (hp : tmps.getD p undef = .pointer (some ⟨g, 0, none⟩)) (hg : w.heap[g]? = some (.cells cs t fr))
    (hu : P.underlying ty = some d) (hd : (match d with | .struct _ | .array _ _ => true | _ => false) = true) (hi : (P.info? ty).map (·.size) = some cs.size) :
    (results fn tmps).run P w = .ok (.tuple #[.agg cs, tmps.getD u undef]) w := by
  have hp' : tmps[p]?.getD undef = .pointer (some ⟨g, 0, none⟩) := by simpa using hp
  simp [results, h, hp', asAddr, run_loadVar_row w g t ty cs fr d hg hu hd hi]

theorem zeroCells_one (v : Value) (n : Nat) : (Builtin.zeroCells #[v] n).toList = List.replicate n v := by
  apply List.ext_getElem?
  intro i
  by_cases h : i < n
  · simp [Builtin.zeroCells, h, Nat.mod_one]
  · simp [Builtin.zeroCells, h]
theorem run_clear {P : Program} {w : World} (t ty elem : TypeId) (hu : P.underlying t = some (.slice elem)) (z : Value) (hz : (zeroValue elem).run P w = .ok z w) (hz1 : z.cells = #[z]) (hz2 : z.oneCell' = true)
    (g off n c : Nat) (cur : List Value) (tt : TypeId) (hg : w.heap[g]? = some (.cells cur.toArray tt (0, 0))) (hfit : off + (n + 1) ≤ cur.length) :
    (Builtin.clear_ #[t] ty #[.slice (some ⟨g, off, none⟩) (n + 1) c]).run P w = .ok (.tuple #[]) (w.setRow g (splice cur off (List.replicate (n + 1) z)).toArray) := by
  have hst := run_storeCells_at P g off tt (List.replicate (n + 1) z) 0 cur.toArray w hg (by simpa using hfit) (by intro v hv; rw [List.eq_of_mem_replicate hv]; exact hz2)
  have e : (cur.toArray.toList.take (off + 0) ++ List.replicate (n + 1) z ++ cur.toArray.toList.drop (off + 0 + (List.replicate (n + 1) z).length)).toArray = (splice cur off (List.replicate (n + 1) z)).toArray := by
    simp [splice]
  rw [e] at hst
  simp [Builtin.clear_, hst, run_underlying hu, hz, hz1, zeroCells_one, Result.andThen]

/-- A digest cut at a width. -/
def cutD (k : Nat) (D : List UInt8) : List UInt8 := D.take k ++ List.replicate (32 - k) 0
theorem cutD_length (k : Nat) (D : List UInt8) (h : D.length = 32) : (cutD k D).length = 32 := by
  unfold cutD; rw [List.length_append, List.length_take, List.length_replicate]; omega
theorem cut_splice (k : Nat) (D : List UInt8) (h : D.length = 32) (hk : k < 32) : splice (bcells D) k (List.replicate (31 - k + 1) (.int .u8 0)) = bcells (cutD k D) := by
  unfold splice cutD
  rw [bcells_append, List.length_replicate, List.drop_of_length_le (by rw [bcells_length]; omega), List.append_nil]
  simp [bcells, List.map_take]
  omega
def cutE (wd : Int) : Int := if 1 ≤ wd ∧ wd ≤ 32 then 0 else 2
def cutR (wd : Int) (D : List UInt8) : List UInt8 := if 1 ≤ wd ∧ wd ≤ 32 then cutD wd.toNat D else List.replicate 32 0

set_option maxRecDepth 100000 in
set_option maxHeartbeats 1000000 in
theorem cut_calls (w : World) (wd : Int) (D : List UInt8) (hD : D.length = 32) : Calls Tryd.prog 24 #[.int .i64 wd, .agg (bcells D).toArray] w fun e w' => e = .returned (.tuple #[.agg (bcells (cutR wd D)).toArray, .int .i64 (cutE wd)]) ∧ Same w w' := by
  have HM : Hid (∀ W, Calls Tryd.prog 13 #[.int .i64 wd] W fun e w' => e = .returned (.bool (decide (1 ≤ wd ∧ wd ≤ 32))) ∧ w' = W) := fun W => may_calls W wd
  have hR32 : (cutR wd D).length = 32 := by
    unfold cutR
    by_cases h : 1 ≤ wd ∧ wd ≤ 32
    · rw [if_pos h]; exact cutD_length _ _ hD
    · rw [if_neg h]; simp
  have hCR : Hid ((1 ≤ wd ∧ wd ≤ 32 → cutR wd D = cutD wd.toNat D ∧ cutE wd = 0) ∧ (¬ (1 ≤ wd ∧ wd ≤ 32) → cutR wd D = List.replicate 32 0 ∧ cutE wd = 2)) := by
    refine ⟨fun h => ?_, fun h => ?_⟩
    · unfold cutR cutE; rw [if_pos h, if_pos h]; exact ⟨rfl, rfl⟩
    · unfold cutR cutE; rw [if_neg h, if_neg h]; exact ⟨rfl, rfl⟩
  obtain ⟨R, hR⟩ : ∃ R, R = (bcells (cutR wd D)).toArray := ⟨_, rfl⟩
  have hRs : R.size = 32 := by rw [hR]; simp [bcells, hR32]
  have hRsz : (Tryd.prog.info? 29).map (·.size) = some R.size := by rw [Tryd.ainfoD, hRs]
  have hRone : R.all (·.oneCell') = true := by rw [hR]; exact bcells_one _
  have HRES : Hid (∀ (tmps : Array Value) (W : World), W.heap[w.heap.size + 1]? = some (.cells R 29 (0, 0)) → tmps.getD 4 undef = .pointer (some ⟨w.heap.size + 1, 0, none⟩) → (results Tryd.f24 tmps).run Tryd.prog W = .ok (.tuple #[.agg R, tmps.getD 5 undef]) W) := fun tmps W h hp => results_row_tmp (p := 4) (u := 5) (ty := 29) (by kernel_rfl) tmps _ (w.heap.size + 1) 29 _ (0, 0) _ hp h Tryd.underlying29 rfl hRsz
  have HR : Hid (R = (bcells (cutR wd D)).toArray) := hR
  rw [← hR]
  obtain ⟨DA, hDA⟩ : ∃ A, A = (bcells D).toArray := ⟨_, rfl⟩
  have hDAr : (w.alloc (.cells DA 29)).heap[w.heap.size]? = some (.cells (bcells D).toArray 29 (0, 0)) := by rw [hDA]; exact heap_alloc_new w _
  rw [← hDA]
  clear hR hDA hR32
  by_cases h1 : 1 ≤ wd ∧ wd ≤ 32
  · rw [decide_eq_true h1] at HM
    obtain ⟨e1, e2⟩ := hCR.out.1 h1
    rw [e2]
    rw [e1] at HR
    obtain ⟨k, hk⟩ : ∃ k : Nat, wd = (k : Int) := ⟨wd.toNat, by omega⟩
    subst hk
    rw [Int.toNat_natCast] at HR
    have hbl := bcells_length D
    clear e1 e2 hCR
    go_enter Tryd.func24, Tryd.ntmps24
    go_wp2_with fail
    refine (HM.out _).mono ?_
    rintro e W1 ⟨rfl, hW1⟩
    obtain ⟨Z, rz, hZ⟩ : ∃ Z : Array Value, W1.heap[w.heap.size + 1]? = some (.cells Z 29 (0, 0)) ∧ Z.size = 32 := by rw [hW1]; exact ⟨_, heap_alloc2_new w _ _, rfl⟩
    have rd : W1.heap[w.heap.size]? = some (.cells (bcells D).toArray 29 (0, 0)) := by rw [hW1, Below.heap_alloc _ _ _ (by simp)]; exact hDAr
    have s1 : Same w W1 := by rw [hW1]; exact ((Fr.refl _ w).alloc _).alloc _
    clear hW1 hDAr
    by_cases h32 : k = 32
    · subst h32
      have hsl : ∀ W, (Instr.sliceAt 29 (.pointer (some ⟨w.heap.size, 0, none⟩)) (some (.int .i64 32)) none none).run Tryd.prog W = .ok (.slice (some ⟨w.heap.size, 0, none⟩) 0 0) W := by
        intro W
        rw [run_sliceAt_array_l W 29 ⟨w.heap.size, 0, none⟩ Tryd.aundD .i64 32 (by omega) (by rw [Tryd.alenD]; omega), Tryd.aelemD, Tryd.szU8, Tryd.alenD]
        simp [slicedAt]
      have hcl : ∀ W, (Builtin.clear_ #[52] 0 #[.slice (some ⟨w.heap.size, 0, none⟩) 0 0]).run Tryd.prog W = .ok (.tuple #[]) W := by
        intro W
        simp [Builtin.clear_, run_underlying Tryd.underlying52, Result.andThen]
      have hRD : R = (bcells D).toArray := by
        rw [HR.out]
        unfold cutD
        rw [List.take_of_length_le (by omega)]
        simp
      rw [← hRD] at rd
      clear hRD
      go_wp2_with (first | (refine wpList_load_row (by rfl) 29 _ (by rfl) w.heap.size (by rfl) 29 R (0, 0) _ rd Tryd.underlying29 rfl hRsz ?_) | (refine wpList_store_whole (by rfl) 29 _ _ (by rfl) (w.heap.size + 1) R Z 29 (by rfl) (by rfl) rz (by rw [hRs, hZ]) hRsz hRone ?_; intro W5 r5 f5))
      exact bodyPost_ret (HRES.out _ _ r5 rfl) rfl ⟨rfl, Fr.trans s1 f5 (fun i hi e => by omega)⟩
    · have hk32 : k < 32 := by omega
      have hsl := fun W => slice_dig W w.heap.size k hk32
      have hzu : (zeroValue 5).run Tryd.prog W1 = .ok (.int .u8 0) W1 := by kernel_rfl
      have h31 : 32 - k = (31 - k) + 1 := by omega
      have hcs := cut_splice k D hD hk32
      have HCS : Hid (splice (bcells D) k (List.replicate (31 - k + 1) (.int .u8 0)) = bcells (cutD k D)) := hcs
      have hsl' : ∀ W, (Instr.sliceAt 29 (.pointer (some ⟨w.heap.size, 0, none⟩)) (some (.int .i64 (k : Int))) none none).run Tryd.prog W = .ok (.slice (some ⟨w.heap.size, k, none⟩) (31 - k + 1) (31 - k + 1)) W := by intro W; rw [← h31]; exact hsl W
      have hfit : k + (31 - k + 1) ≤ (bcells D).length := by omega
      obtain ⟨n31, hn31⟩ : ∃ n, n = 31 - k := ⟨_, rfl⟩
      rw [← hn31] at hfit HCS
      simp only [← hn31] at hsl'
      clear hsl h31 hcs hn31
      have hcl := run_clear (P := Tryd.prog) (w := W1) 52 0 5 Tryd.underlying52 (.int .u8 0) hzu rfl rfl w.heap.size k n31 (n31 + 1) (bcells D) 29 rd hfit
      rw [HCS.out, ← HR.out] at hcl
      have f2 := setRow_fr W1 w.heap.size R
      have r2 := setRow_heap W1 w.heap.size _ R _ _ rd
      generalize W1.setRow w.heap.size R = W2 at *
      have s2 : Same w W2 := Fr.trans s1 f2 (fun i hi e => by omega)
      have rz2 : W2.heap[w.heap.size + 1]? = some (.cells Z 29 (0, 0)) := by rw [f2.block _ (lt_of_heap rz) (by omega)]; exact rz
      clear f2 rz rd s1
      go_wp2_with (first | (refine wpList_load_row (by rfl) 29 _ (by rfl) w.heap.size (by rfl) 29 R (0, 0) _ r2 Tryd.underlying29 rfl hRsz ?_) | (refine wpList_store_whole (by rfl) 29 _ _ (by rfl) (w.heap.size + 1) R Z 29 (by rfl) (by rfl) rz2 (by rw [hRs, hZ]) hRsz hRone ?_; intro W5 r5 f5))
      exact bodyPost_ret (HRES.out _ _ r5 rfl) rfl ⟨rfl, Fr.trans s2 f5 (fun i hi e => by omega)⟩
  · rw [decide_eq_false h1] at HM
    obtain ⟨e1, e2⟩ := hCR.out.2 h1
    rw [e2]
    rw [e1] at HR
    have hzv : ∀ W, (zeroValue 29).run Tryd.prog W = .ok (.agg R) W := by rw [HR.out]; exact fun W => by kernel_rfl
    clear e1 e2 hCR
    go_enter Tryd.func24, Tryd.ntmps24
    go_wp2_with fail
    refine (HM.out _).mono ?_
    rintro e W1 ⟨rfl, hW1⟩
    obtain ⟨Z, rz, hZ⟩ : ∃ Z : Array Value, W1.heap[w.heap.size + 1]? = some (.cells Z 29 (0, 0)) ∧ Z.size = 32 := by rw [hW1]; exact ⟨_, heap_alloc2_new w _ _, hRs⟩
    have s1 : Same w W1 := by rw [hW1]; exact ((Fr.refl _ w).alloc _).alloc _
    clear hW1 hDAr
    go_wp2_with (first | (refine wpList_store_whole (by rfl) 29 _ _ (by rfl) (w.heap.size + 1) R Z 29 (by rfl) (by rfl) rz (by rw [hRs, hZ]) hRsz hRone ?_; intro W5 r5 f5))
    exact bodyPost_ret (HRES.out _ _ r5 rfl) rfl ⟨rfl, Fr.trans s1 f5 (fun i hi e => by omega)⟩

/-- The digest of a text. -/
def ofR (wd : Int) (m : List UInt8) : List UInt8 := cutR wd (sha m)
theorem by4_length (x : UInt32) : (by4 x).length = 4 := rfl
theorem sha_length (m : List UInt8) : (sha m).length = 32 := rfl
theorem cutR_length (wd : Int) (D : List UInt8) (h : D.length = 32) : (cutR wd D).length = 32 := by
  unfold cutR
  by_cases h1 : 1 ≤ wd ∧ wd ≤ 32
  · rw [if_pos h1]; exact cutD_length _ _ h
  · rw [if_neg h1]; simp

set_option maxRecDepth 100000 in
set_option maxHeartbeats 1000000 in
theorem of_calls (w : World) (wd : Int) (s : ByteArray) (hs : s.size ≤ 70368744177664) : Calls Tryd.prog 15 #[.int .i64 wd, .string s] w fun e w' => e = .returned (.tuple #[.agg (bcells (ofR wd s.data.toList)).toArray, .int .i64 (cutE wd)]) ∧ Same w w' := by
  have HM : Hid (∀ W, Calls Tryd.prog 13 #[.int .i64 wd] W fun e w' => e = .returned (.bool (decide (1 ≤ wd ∧ wd ≤ 32))) ∧ w' = W) := fun W => may_calls W wd
  have hl := cutR_length wd (sha s.data.toList) (sha_length _)
  have HSU : Hid (∀ W, Calls Tryd.prog 25 #[.string s] W fun e w' => e = .returned (.agg (bcells (sha s.data.toList)).toArray) ∧ Same W w') := fun W => sum_calls W s hs
  have HCU : Hid (∀ W, Calls Tryd.prog 24 #[.int .i64 wd, .agg (bcells (sha s.data.toList)).toArray] W fun e w' => e = .returned (.tuple #[.agg (bcells (ofR wd s.data.toList)).toArray, .int .i64 (cutE wd)]) ∧ Same W w') := fun W => cut_calls W wd _ (sha_length _)
  have hCR : Hid (¬ (1 ≤ wd ∧ wd ≤ 32) → ofR wd s.data.toList = List.replicate 32 0 ∧ cutE wd = 2) := by
    intro h
    unfold ofR cutR cutE; rw [if_neg h, if_neg h]; exact ⟨rfl, rfl⟩
  generalize (bcells (sha s.data.toList)).toArray = SA at *
  obtain ⟨R, hR⟩ : ∃ R, R = (bcells (ofR wd s.data.toList)).toArray := ⟨_, rfl⟩
  have hRs : R.size = 32 := by rw [hR]; simp [bcells, ofR, hl]
  have hRsz : (Tryd.prog.info? 29).map (·.size) = some R.size := by rw [Tryd.ainfoD, hRs]
  have hRone : R.all (·.oneCell') = true := by rw [hR]; exact bcells_one _
  have HRES : Hid (∀ (tmps : Array Value) (W : World), W.heap[w.heap.size]? = some (.cells R 29 (0, 0)) → tmps.getD 4 undef = .pointer (some ⟨w.heap.size, 0, none⟩) → (results Tryd.f15 tmps).run Tryd.prog W = .ok (.tuple #[.agg R, tmps.getD 5 undef]) W) := fun tmps W h hp => results_row_tmp (p := 4) (u := 5) (ty := 29) (by kernel_rfl) tmps _ w.heap.size 29 _ (0, 0) _ hp h Tryd.underlying29 rfl hRsz
  have HR : Hid (R = (bcells (ofR wd s.data.toList)).toArray) := hR
  rw [← hR] at HCU ⊢
  clear hR hl
  by_cases h1 : 1 ≤ wd ∧ wd ≤ 32
  · rw [decide_eq_true h1] at HM
    generalize cutE wd = ce at *
    clear hCR
    go_enter Tryd.func15, Tryd.ntmps15
    go_wp2_with fail
    refine (HM.out _).mono ?_
    rintro e W1 ⟨rfl, hW1⟩
    obtain ⟨Z, rz, hZ⟩ : ∃ Z : Array Value, W1.heap[w.heap.size]? = some (.cells Z 29 (0, 0)) ∧ Z.size = 32 := by rw [hW1]; exact ⟨_, heap_alloc_new w _, rfl⟩
    have s1 : Same w W1 := by rw [hW1]; exact (Fr.refl _ w).alloc _
    clear hW1
    go_wp2_with fail
    refine (HSU.out _).mono ?_
    rintro e W2 ⟨rfl, s2⟩
    go_wp2_with fail
    refine (HCU.out _).mono ?_
    rintro e W3 ⟨rfl, s3⟩
    have rz3 : W3.heap[w.heap.size]? = some (.cells Z 29 (0, 0)) := by rw [(s2.trans s3).block _ (lt_of_heap rz) (fun f => f)]; exact rz
    have s03 := s1.trans (s2.trans s3)
    clear s1 s2 s3 rz
    go_wp2_with (first | (refine wpList_store_whole (by rfl) 29 _ _ (by rfl) w.heap.size R Z 29 (by rfl) (by rfl) rz3 (by rw [hRs, hZ]) hRsz hRone ?_; intro W5 r5 f5))
    exact bodyPost_ret (HRES.out _ _ r5 rfl) rfl ⟨rfl, Fr.trans s03 f5 (fun i hi e => by omega)⟩
  · rw [decide_eq_false h1] at HM
    obtain ⟨e1, e2⟩ := hCR.out h1
    rw [e2]
    rw [e1] at HR
    have hzv : ∀ W, (zeroValue 29).run Tryd.prog W = .ok (.agg R) W := by rw [HR.out]; exact fun W => by kernel_rfl
    clear e1 e2 hCR
    go_enter Tryd.func15, Tryd.ntmps15
    go_wp2_with fail
    refine (HM.out _).mono ?_
    rintro e W1 ⟨rfl, hW1⟩
    obtain ⟨Z, rz, hZ⟩ : ∃ Z : Array Value, W1.heap[w.heap.size]? = some (.cells Z 29 (0, 0)) ∧ Z.size = 32 := by rw [hW1]; exact ⟨_, heap_alloc_new w _, hRs⟩
    have s1 : Same w W1 := by rw [hW1]; exact (Fr.refl _ w).alloc _
    clear hW1
    go_wp2_with (first | (refine wpList_store_whole (by rfl) 29 _ _ (by rfl) w.heap.size R Z 29 (by rfl) (by rfl) rz (by rw [hRs, hZ]) hRsz hRone ?_; intro W5 r5 f5))
    exact bodyPost_ret (HRES.out _ _ r5 rfl) rfl ⟨rfl, Fr.trans s1 f5 (fun i hi e => by omega)⟩
end Go.Proofs.YtnoicjpmfchhiaaDoor
