/- Cut, Fits, and whether two digests are one: without SHA-256. -/
import Derived.Test.YtjlbkagkmcelgaaWK
import Derived.Laws.ResultCell
import Derived.Laws.CopyOwn
import Derived.Laws.Rows
import Derived.Deep.RegionLaw
import Derived.ChangeKeysEq
import Derived.BigFrame
namespace Go.Proofs.Ytjlbkagkmcelgaa
open Go.RowKit

theorem setRow_fr (w : World) (g : Nat) (cs : Array Value) : Fr (fun k => k = g) w (w.setRow g cs) :=
  ⟨rfl, rfl, rfl, by simp [World.setRow], fun k _ hn => setRow_other w g k cs hn⟩
theorem bcells_one (l : List UInt8) : (bcells l).toArray.all (·.oneCell') = true :=
  all_oneCell_toArray (by intro v hv; simp only [bcells, List.mem_map] at hv; obtain ⟨c, _, rfl⟩ := hv; rfl)
/-- A whole array stored into a block of its own. -/
theorem wpList_store_whole {P : Program} {ops : Array Oper} {rest : List Oper} {op : Oper} {a : Act} {w : World} {Q : Exit → Act → World → Prop} (hgd : op.guard = none) (ty : TypeId) (x y : Operand) (ho : op.op = .store ty x y)
    (b : Nat) (cells old : Array Value) (t : TypeId) (hx : a.eval x = .pointer (some ⟨b, 0, none⟩)) (hy : a.eval y = .agg cells) (hb : w.heap[b]? = some (.cells old t (0, 0))) (hl : old.size = cells.size)
    (hi : (P.info? ty).map (·.size) = some cells.size) (h1 : cells.all (·.oneCell') = true)
    (h : ∀ w', w'.heap[b]? = some (.cells cells t (0, 0)) → Fr (fun k => k = b) w w' → wpList P ops Q rest (a.put op.dst undef) w') : wpList P ops Q (op :: rest) a w := by
  have hth : w.there b 0 cells.size := there_row hb hl.symm
  refine wpList_store_mid hgd ty x y ho b 0 cells hx hy hth hi h1 (h _ ?_ (Fr.setCells (S := fun k => k = b) (fun _ => rfl) _ 0 w (Fr.refl _ w)))
  have := setCells_whole cells.toList old hb (by rw [hl, Array.length_toList]) (by rw [Array.length_toList]; exact hth)
  rwa [Array.toArray_toList] at this

theorem Try.szU8 (W : World) : (sizeOf 5).run Try.prog W = .ok 1 W := by kernel_rfl
theorem Try.alenD : Try.prog.arrayLen 35 = 32 := by kernel_rfl
theorem Try.aelemD : Try.prog.elem 35 = 5 := by kernel_rfl
theorem Try.aundD : Try.prog.underlying 35 = some (.array (Try.prog.arrayLen 35) (Try.prog.elem 35)) := by kernel_rfl
theorem Try.ainfoD : (Try.prog.info? 35).map (·.size) = some 32 := by kernel_rfl
theorem slice_dig (W : World) (g k : Nat) (hk : k < 32) : (Instr.sliceAt 35 (.pointer (some ⟨g, 0, none⟩)) (some (.int .i64 (k : Int))) none none).run Try.prog W = .ok (.slice (some ⟨g, k, none⟩) (32 - k) (32 - k)) W := by
  rw [run_sliceAt_array_l W 35 ⟨g, 0, none⟩ Try.aundD .i64 k (by omega) (by rw [Try.alenD]; omega), Try.aelemD, Try.szU8, Try.alenD]
  have h8 : ¬ 32 = k := by omega
  by_cases h0 : k = 0
  · subst h0; simp [slicedAt, Addr.add]
  · simp [slicedAt, Addr.add, h8, h0]

set_option maxRecDepth 100000 in
set_option maxHeartbeats 400000 in
theorem may_calls (w : World) (wd : Int) : Calls Try.prog 89 #[.int .i64 wd] w fun e w' => e = .returned (.bool (decide (1 ≤ wd ∧ wd ≤ 32))) ∧ w' = w := by
  by_cases h1 : 1 ≤ wd
  · by_cases h2 : wd ≤ 32
    · rw [decide_eq_true ⟨h1, h2⟩]
      go_enter Try.func89, Try.ntmps89
      go_wp2
      go_ret
      exact ⟨rfl, rfl⟩
    · rw [decide_eq_false (by omega)]
      go_enter Try.func89, Try.ntmps89
      go_wp2
      go_ret
      exact ⟨rfl, rfl⟩
  · rw [decide_eq_false (by omega)]
    go_enter Try.func89, Try.ntmps89
    go_wp2
    go_ret
    exact ⟨rfl, rfl⟩

theorem results_row_tmp {P : Program} {fn : Func} {p u : Tmp} {ty : TypeId} (h : fn.results = #[.cell p ty, .tmp u]) (tmps : Array Value) (w : World) (g : Nat) (t : TypeId) (cs : Array Value) (fr : Nat × Nat) (d : TypeDesc)
    (hp : tmps.getD p undef = .pointer (some ⟨g, 0, none⟩)) (hg : w.heap[g]? = some (.cells cs t fr))
    (hu : P.underlying ty = some d) (hd : (match d with | .struct _ | .array _ _ => true | _ => false) = true) (hi : (P.info? ty).map (·.size) = some cs.size) :
    (results fn tmps).run P w = .ok (.tuple #[.agg cs, tmps.getD u undef]) w := by
  have hp' : tmps[p]?.getD undef = .pointer (some ⟨g, 0, none⟩) := by simpa using hp
  simp [results, h, hp', asAddr, run_loadVar_row w g t ty cs fr d hg hu hd hi]

theorem zeroCells_one (v : Value) (n : Nat) : (Builtin.zeroCells #[v] n).toList = List.replicate n v := by
  apply List.ext_getElem?
  intro i
  by_cases h : i < n
  · simp [Builtin.zeroCells, h, Nat.mod_one]
  · simp [Builtin.zeroCells, h]
theorem run_clear {P : Program} {w : World} (t ty elem : TypeId) (hu : P.underlying t = some (.slice elem)) (z : Value) (hz : (zeroValue elem).run P w = .ok z w) (hz1 : z.cells = #[z]) (hz2 : z.oneCell' = true)
    (g off n c : Nat) (cur : List Value) (tt : TypeId) (hg : w.heap[g]? = some (.cells cur.toArray tt (0, 0))) (hfit : off + (n + 1) ≤ cur.length) :
    (Builtin.clear_ #[t] ty #[.slice (some ⟨g, off, none⟩) (n + 1) c]).run P w = .ok (.tuple #[]) (w.setRow g (splice cur off (List.replicate (n + 1) z)).toArray) := by
  have hst := run_storeCells_at P g off tt (List.replicate (n + 1) z) 0 cur.toArray w hg (by simpa using hfit) (by intro v hv; rw [List.eq_of_mem_replicate hv]; exact hz2)
  have e : (cur.toArray.toList.take (off + 0) ++ List.replicate (n + 1) z ++ cur.toArray.toList.drop (off + 0 + (List.replicate (n + 1) z).length)).toArray = (splice cur off (List.replicate (n + 1) z)).toArray := by
    simp [splice]
  rw [e] at hst
  simp [Builtin.clear_, hst, run_underlying hu, hz, hz1, zeroCells_one, Result.andThen]

/-- A digest cut at a width. -/
def cutD (k : Nat) (D : List UInt8) : List UInt8 := D.take k ++ List.replicate (32 - k) 0
theorem cutD_length (k : Nat) (D : List UInt8) (h : D.length = 32) : (cutD k D).length = 32 := by
  unfold cutD; rw [List.length_append, List.length_take, List.length_replicate]; omega
theorem cut_splice (k : Nat) (D : List UInt8) (h : D.length = 32) (hk : k < 32) : splice (bcells D) k (List.replicate (31 - k + 1) (.int .u8 0)) = bcells (cutD k D) := by
  unfold splice cutD
  rw [bcells_append, List.length_replicate, List.drop_of_length_le (by rw [bcells_length]; omega), List.append_nil]
  simp [bcells, List.map_take]
  omega
def cutE (wd : Int) : Int := if 1 ≤ wd ∧ wd ≤ 32 then 0 else 2
def cutR (wd : Int) (D : List UInt8) : List UInt8 := if 1 ≤ wd ∧ wd ≤ 32 then cutD wd.toNat D else List.replicate 32 0

set_option maxRecDepth 100000 in
set_option maxHeartbeats 1000000 in
theorem cut_calls (w : World) (wd : Int) (D : List UInt8) (hD : D.length = 32) : Calls Try.prog 79 #[.int .i64 wd, .agg (bcells D).toArray] w fun e w' => e = .returned (.tuple #[.agg (bcells (cutR wd D)).toArray, .int .i64 (cutE wd)]) ∧ Same w w' := by
  have HM : Hid (∀ W, Calls Try.prog 89 #[.int .i64 wd] W fun e w' => e = .returned (.bool (decide (1 ≤ wd ∧ wd ≤ 32))) ∧ w' = W) := fun W => may_calls W wd
  have hR32 : (cutR wd D).length = 32 := by
    unfold cutR
    by_cases h : 1 ≤ wd ∧ wd ≤ 32
    · rw [if_pos h]; exact cutD_length _ _ hD
    · rw [if_neg h]; simp
  have hCR : Hid ((1 ≤ wd ∧ wd ≤ 32 → cutR wd D = cutD wd.toNat D ∧ cutE wd = 0) ∧ (¬ (1 ≤ wd ∧ wd ≤ 32) → cutR wd D = List.replicate 32 0 ∧ cutE wd = 2)) := by
    refine ⟨fun h => ?_, fun h => ?_⟩
    · unfold cutR cutE; rw [if_pos h, if_pos h]; exact ⟨rfl, rfl⟩
    · unfold cutR cutE; rw [if_neg h, if_neg h]; exact ⟨rfl, rfl⟩
  obtain ⟨R, hR⟩ : ∃ R, R = (bcells (cutR wd D)).toArray := ⟨_, rfl⟩
  have hRs : R.size = 32 := by rw [hR]; simp [bcells, hR32]
  have hRsz : (Try.prog.info? 35).map (·.size) = some R.size := by rw [Try.ainfoD, hRs]
  have hRone : R.all (·.oneCell') = true := by rw [hR]; exact bcells_one _
  have HRES : Hid (∀ (tmps : Array Value) (W : World), W.heap[w.heap.size + 1]? = some (.cells R 35 (0, 0)) → tmps.getD 4 undef = .pointer (some ⟨w.heap.size + 1, 0, none⟩) → (results Try.f79 tmps).run Try.prog W = .ok (.tuple #[.agg R, tmps.getD 5 undef]) W) := fun tmps W h hp => results_row_tmp (p := 4) (u := 5) (ty := 35) (by kernel_rfl) tmps _ (w.heap.size + 1) 35 _ (0, 0) _ hp h Try.underlying35 rfl hRsz
  have HR : Hid (R = (bcells (cutR wd D)).toArray) := hR
  rw [← hR]
  obtain ⟨DA, hDA⟩ : ∃ A, A = (bcells D).toArray := ⟨_, rfl⟩
  have hDAr : (w.alloc (.cells DA 35)).heap[w.heap.size]? = some (.cells (bcells D).toArray 35 (0, 0)) := by rw [hDA]; exact heap_alloc_new w _
  rw [← hDA]
  clear hR hDA hR32
  by_cases h1 : 1 ≤ wd ∧ wd ≤ 32
  · rw [decide_eq_true h1] at HM
    obtain ⟨e1, e2⟩ := hCR.out.1 h1
    rw [e2]
    rw [e1] at HR
    obtain ⟨k, hk⟩ : ∃ k : Nat, wd = (k : Int) := ⟨wd.toNat, by omega⟩
    subst hk
    rw [Int.toNat_natCast] at HR
    have hbl := bcells_length D
    clear e1 e2 hCR
    go_enter Try.func79, Try.ntmps79
    go_wp2_with fail
    refine (HM.out _).mono ?_
    rintro e W1 ⟨rfl, hW1⟩
    obtain ⟨Z, rz, hZ⟩ : ∃ Z : Array Value, W1.heap[w.heap.size + 1]? = some (.cells Z 35 (0, 0)) ∧ Z.size = 32 := by rw [hW1]; exact ⟨_, heap_alloc2_new w _ _, rfl⟩
    have rd : W1.heap[w.heap.size]? = some (.cells (bcells D).toArray 35 (0, 0)) := by rw [hW1, Below.heap_alloc _ _ _ (by simp)]; exact hDAr
    have s1 : Same w W1 := by rw [hW1]; exact ((Fr.refl _ w).alloc _).alloc _
    clear hW1 hDAr
    by_cases h32 : k = 32
    · subst h32
      have hsl : ∀ W, (Instr.sliceAt 35 (.pointer (some ⟨w.heap.size, 0, none⟩)) (some (.int .i64 32)) none none).run Try.prog W = .ok (.slice (some ⟨w.heap.size, 0, none⟩) 0 0) W := by
        intro W
        rw [run_sliceAt_array_l W 35 ⟨w.heap.size, 0, none⟩ Try.aundD .i64 32 (by omega) (by rw [Try.alenD]; omega), Try.aelemD, Try.szU8, Try.alenD]
        simp [slicedAt]
      have hcl : ∀ W, (Builtin.clear_ #[44] 0 #[.slice (some ⟨w.heap.size, 0, none⟩) 0 0]).run Try.prog W = .ok (.tuple #[]) W := by
        intro W
        simp [Builtin.clear_, run_underlying Try.underlying44, Result.andThen]
      have hRD : R = (bcells D).toArray := by
        rw [HR.out]
        unfold cutD
        rw [List.take_of_length_le (by omega)]
        simp
      rw [← hRD] at rd
      clear hRD
      go_wp2_with (first | (refine wpList_load_row (by rfl) 35 _ (by rfl) w.heap.size (by rfl) 35 R (0, 0) _ rd Try.underlying35 rfl hRsz ?_) | (refine wpList_store_whole (by rfl) 35 _ _ (by rfl) (w.heap.size + 1) R Z 35 (by rfl) (by rfl) rz (by rw [hRs, hZ]) hRsz hRone ?_; intro W5 r5 f5))
      exact bodyPost_ret (HRES.out _ _ r5 rfl) rfl ⟨rfl, Fr.trans s1 f5 (fun i hi e => by omega)⟩
    · have hk32 : k < 32 := by omega
      have hsl := fun W => slice_dig W w.heap.size k hk32
      have hzu : (zeroValue 5).run Try.prog W1 = .ok (.int .u8 0) W1 := by kernel_rfl
      have h31 : 32 - k = (31 - k) + 1 := by omega
      have hcs := cut_splice k D hD hk32
      have HCS : Hid (splice (bcells D) k (List.replicate (31 - k + 1) (.int .u8 0)) = bcells (cutD k D)) := hcs
      have hsl' : ∀ W, (Instr.sliceAt 35 (.pointer (some ⟨w.heap.size, 0, none⟩)) (some (.int .i64 (k : Int))) none none).run Try.prog W = .ok (.slice (some ⟨w.heap.size, k, none⟩) (31 - k + 1) (31 - k + 1)) W := by intro W; rw [← h31]; exact hsl W
      have hfit : k + (31 - k + 1) ≤ (bcells D).length := by omega
      obtain ⟨n31, hn31⟩ : ∃ n, n = 31 - k := ⟨_, rfl⟩
      rw [← hn31] at hfit HCS
      simp only [← hn31] at hsl'
      clear hsl h31 hcs hn31
      have hcl := run_clear (P := Try.prog) (w := W1) 44 0 5 Try.underlying44 (.int .u8 0) hzu rfl rfl w.heap.size k n31 (n31 + 1) (bcells D) 35 rd hfit
      rw [HCS.out, ← HR.out] at hcl
      have f2 := setRow_fr W1 w.heap.size R
      have r2 := setRow_heap W1 w.heap.size _ R _ _ rd
      generalize W1.setRow w.heap.size R = W2 at *
      have s2 : Same w W2 := Fr.trans s1 f2 (fun i hi e => by omega)
      have rz2 : W2.heap[w.heap.size + 1]? = some (.cells Z 35 (0, 0)) := by rw [f2.block _ (lt_of_heap rz) (by omega)]; exact rz
      clear f2 rz rd s1
      go_wp2_with (first | (refine wpList_load_row (by rfl) 35 _ (by rfl) w.heap.size (by rfl) 35 R (0, 0) _ r2 Try.underlying35 rfl hRsz ?_) | (refine wpList_store_whole (by rfl) 35 _ _ (by rfl) (w.heap.size + 1) R Z 35 (by rfl) (by rfl) rz2 (by rw [hRs, hZ]) hRsz hRone ?_; intro W5 r5 f5))
      exact bodyPost_ret (HRES.out _ _ r5 rfl) rfl ⟨rfl, Fr.trans s2 f5 (fun i hi e => by omega)⟩
  · rw [decide_eq_false h1] at HM
    obtain ⟨e1, e2⟩ := hCR.out.2 h1
    rw [e2]
    rw [e1] at HR
    have hzv : ∀ W, (zeroValue 35).run Try.prog W = .ok (.agg R) W := by rw [HR.out]; exact fun W => by kernel_rfl
    clear e1 e2 hCR
    go_enter Try.func79, Try.ntmps79
    go_wp2_with fail
    refine (HM.out _).mono ?_
    rintro e W1 ⟨rfl, hW1⟩
    obtain ⟨Z, rz, hZ⟩ : ∃ Z : Array Value, W1.heap[w.heap.size + 1]? = some (.cells Z 35 (0, 0)) ∧ Z.size = 32 := by rw [hW1]; exact ⟨_, heap_alloc2_new w _ _, hRs⟩
    have s1 : Same w W1 := by rw [hW1]; exact ((Fr.refl _ w).alloc _).alloc _
    clear hW1 hDAr
    go_wp2_with (first | (refine wpList_store_whole (by rfl) 35 _ _ (by rfl) (w.heap.size + 1) R Z 35 (by rfl) (by rfl) rz (by rw [hRs, hZ]) hRsz hRone ?_; intro W5 r5 f5))
    exact bodyPost_ret (HRES.out _ _ r5 rfl) rfl ⟨rfl, Fr.trans s1 f5 (fun i hi e => by omega)⟩

theorem cutR_length (wd : Int) (D : List UInt8) (h : D.length = 32) : (cutR wd D).length = 32 := by
  unfold cutR
  by_cases h1 : 1 ≤ wd ∧ wd ≤ 32
  · rw [if_pos h1]; exact cutD_length _ _ h
  · rw [if_neg h1]; simp

theorem Try.plain8 : Try.prog.plainKey 5 = true := by kernel_rfl
theorem Try.und8 : Try.prog.underlying 5 = some (.int .u8) := by kernel_rfl
theorem Try.cells8 : Try.prog.cellsOf 5 = 1 := by kernel_rfl
theorem Try.aund32 : Try.prog.underlying 35 = some (.array 32 5) := by kernel_rfl
theorem eqItems_gen (W : World) (d : Nat) (D E : List UInt8) (is : List Nat) (hD : ∀ i ∈ is, i < D.length) (hE : ∀ i ∈ is, i < E.length) : (Op.eqItems (d + 1) 5 1 (bcells D).toArray (bcells E).toArray is).run Try.prog W = .ok (is.all fun i => D.getD i 0 == E.getD i 0) W := by
  induction is with
  | nil => simp [Op.eqItems]
  | cons i is ih =>
    have hd := hD i (by simp)
    have he := hE i (by simp)
    have h1 : (part 5 (bcells D).toArray (i * 1)).run Try.prog W = .ok (.int .u8 ((D.getD i 0).toNat : Int)) W := run_part_plain W Try.plain8 (by rw [Nat.mul_one]; simp [bcells, hd])
    have h1' : (part 5 (bcells E).toArray (i * 1)).run Try.prog W = .ok (.int .u8 ((E.getD i 0).toNat : Int)) W := run_part_plain W Try.plain8 (by rw [Nat.mul_one]; simp [bcells, he])
    have h2 := run_equalIn_int W d 5 .u8 .u8 ((D.getD i 0).toNat : Int) ((E.getD i 0).toNat : Int) Try.und8
    have hih := ih (fun j hj => hD j (by simp [hj])) (fun j hj => hE j (by simp [hj]))
    simp only [Op.eqItems, Sem.run_bind, h1, h1', h2, Result.andThen_ok]
    rw [List.all_cons]
    generalize D.getD i 0 = x at *
    generalize E.getD i 0 = y at *
    by_cases h : x = y
    · subst h
      simp [hih]
    · have h' : ¬ (x.toNat : Int) = (y.toNat : Int) := by
        intro e
        apply h
        apply UInt8.toNat_inj.1
        omega
      have h3 : (x == y) = false := by simpa using h
      have h4 : ((x.toNat : Int) == (y.toNat : Int)) = false := by simpa using h'
      simp [h3, h4]
set_option maxRecDepth 100000 in
theorem eq_digest (W : World) (D E : List UInt8) (hD : D.length = 32) (hE : E.length = 32) : (Op.equalIn 10000 35 (.agg (bcells D).toArray) (.agg (bcells E).toArray)).run Try.prog W = .ok (decide (D = E)) W := by
  obtain ⟨i8, hi8⟩ := info_of_underlying Try.und8
  have h1 := run_equalIn_array (w := W) 9999 (bcells D).toArray (bcells E).toArray Try.aund32 hi8
  rw [Try.cells8] at h1
  have h2 := eqItems_gen W 9998 D E (List.range 32) (fun i hi => by rw [hD]; exact List.mem_range.1 hi) (fun i hi => by rw [hE]; exact List.mem_range.1 hi)
  rw [h1, h2]
  congr 1
  rw [Bool.eq_iff_iff, List.all_eq_true, decide_eq_true_eq]
  constructor
  · intro h
    apply List.ext_getElem (by omega)
    intro i hi1 hi2
    have := h i (List.mem_range.2 (by omega))
    simpa [hi1, hi2] using this
  · rintro rfl i _
    simp
theorem wpList_load_want {P : Program} {ops : Array Oper} {rest : List Oper} {o : Oper} {a : Act} {w : World} {Q : Exit → Act → World → Prop} (hw : Region.wanted o (yielded ops a.tmps) = true) (ty : TypeId) (x : Operand) (ho : o.op = .load ty x)
    (g : Nat) (hx : a.eval x = .pointer (some ⟨g, 0, none⟩)) (t : TypeId) (cs : Array Value) (fr : Nat × Nat) (d : TypeDesc) (hg : w.heap[g]? = some (.cells cs t fr))
    (hu : P.underlying ty = some d) (hd : (match d with | .struct _ | .array _ _ => true | _ => false) = true) (hi : (P.info? ty).map (·.size) = some cs.size)
    (h : wpList P ops Q rest (a.put o.dst (.agg cs)) w) : wpList P ops Q (o :: rest) a w :=
  BigFrame.wpList_want hw fun _ hK => wp_load_row ty x ho g hx t cs fr d hg hu hd hi (hK _ _ h)

def fitsP (wd : Int) (D : List UInt8) : Bool := decide (1 ≤ wd ∧ wd ≤ 32) && decide (cutR wd D = D)

set_option maxRecDepth 100000 in
set_option maxHeartbeats 1000000 in
theorem fits_calls (w : World) (wd : Int) (D : List UInt8) (hD : D.length = 32) : Calls Try.prog 59 #[.int .i64 wd, .agg (bcells D).toArray] w fun e w' => e = .returned (.bool (fitsP wd D)) ∧ Same w w' := by
  have HC : Hid (∀ W, Calls Try.prog 79 #[.int .i64 wd, .agg (bcells D).toArray] W fun e w' => e = .returned (.tuple #[.agg (bcells (cutR wd D)).toArray, .int .i64 (cutE wd)]) ∧ Same W w') := fun W => cut_calls W wd D hD
  have l1 := cutR_length wd D hD
  have hEq := fun W => eq_digest W (cutR wd D) D l1 hD
  have hXs : (bcells (cutR wd D)).toArray.size = 32 := by simp [bcells, l1]
  have hXone := bcells_one (cutR wd D)
  have hP : fitsP wd D = (decide (1 ≤ wd ∧ wd ≤ 32) && decide (cutR wd D = D)) := rfl
  have hce : cutE wd = if 1 ≤ wd ∧ wd ≤ 32 then 0 else 2 := rfl
  have hDs : (bcells D).toArray.size = 32 := by simp [bcells, hD]
  have hDone := bcells_one D
  generalize decide (cutR wd D = D) = bb at *
  generalize (bcells (cutR wd D)).toArray = X at *
  generalize (bcells D).toArray = Y at *
  have hXsz : (Try.prog.info? 35).map (·.size) = some X.size := by rw [Try.ainfoD, hXs]
  have hYsz : (Try.prog.info? 35).map (·.size) = some Y.size := by rw [Try.ainfoD, hDs]
  clear l1
  by_cases h1 : 1 ≤ wd ∧ wd ≤ 32
  · rw [decide_eq_true h1, Bool.true_and] at hP
    rw [if_pos h1] at hce
    rw [hce] at HC
    rw [hP]
    clear hP hce
    go_enter Try.func59, Try.ntmps59
    go_wp2_with (first | (refine wpList_load_row (by rfl) 35 _ (by rfl) w.heap.size (by rfl) 35 Y (0, 0) _ (heap_alloc_new w _) Try.underlying35 rfl hYsz ?_))
    have s0 : Same w (w.alloc (.cells Y 35)) := (Fr.refl _ w).alloc _
    have r0 : (w.alloc (.cells Y 35)).heap[w.heap.size]? = some (.cells Y 35 (0, 0)) := heap_alloc_new w _
    generalize w.alloc (.cells Y 35) = W0 at *
    refine (HC.out _).mono ?_
    rintro e W1 ⟨rfl, s1⟩
    have r1 : W1.heap[w.heap.size]? = some (.cells Y 35 (0, 0)) := by rw [s1.block _ (lt_of_heap r0) (fun f => f)]; exact r0
    clear r0
    go_wp2_with (first | (refine wpList_store_whole (by rfl) 35 _ _ (by rfl) W1.heap.size X _ 35 (by rfl) (by rfl) (heap_alloc_new W1 _) (by rw [hXs]; rfl) hXsz hXone ?_; intro W2 r2 f2; have s2 : Same W1 W2 := Fr.trans ((Fr.refl _ W1).alloc _) f2 (fun i hi e => by omega); clear f2) | (refine wpList_load_want (by rfl) 35 _ (by rfl) W1.heap.size (by rfl) 35 X (0, 0) _ r2 Try.underlying35 rfl hXsz ?_) | (refine wpList_load_want (by rfl) 35 _ (by rfl) w.heap.size (by rfl) 35 Y (0, 0) _ ((s2.block _ (lt_of_heap r1) (fun f => f)).trans r1) Try.underlying35 rfl hYsz ?_))
    go_ret
    exact ⟨rfl, s0.trans (s1.trans s2)⟩
  · rw [decide_eq_false h1, Bool.false_and] at hP
    rw [if_neg h1] at hce
    rw [hce] at HC
    rw [hP]
    clear hP hce
    go_enter Try.func59, Try.ntmps59
    go_wp2_with (first | (refine wpList_load_row (by rfl) 35 _ (by rfl) w.heap.size (by rfl) 35 Y (0, 0) _ (heap_alloc_new w _) Try.underlying35 rfl hYsz ?_))
    have s0 : Same w (w.alloc (.cells Y 35)) := (Fr.refl _ w).alloc _
    have r0 : (w.alloc (.cells Y 35)).heap[w.heap.size]? = some (.cells Y 35 (0, 0)) := heap_alloc_new w _
    generalize w.alloc (.cells Y 35) = W0 at *
    refine (HC.out _).mono ?_
    rintro e W1 ⟨rfl, s1⟩
    have r1 : W1.heap[w.heap.size]? = some (.cells Y 35 (0, 0)) := by rw [s1.block _ (lt_of_heap r0) (fun f => f)]; exact r0
    clear r0
    go_wp2_with (first | (refine wpList_store_whole (by rfl) 35 _ _ (by rfl) W1.heap.size X _ 35 (by rfl) (by rfl) (heap_alloc_new W1 _) (by rw [hXs]; rfl) hXsz hXone ?_; intro W2 r2 f2; have s2 : Same W1 W2 := Fr.trans ((Fr.refl _ W1).alloc _) f2 (fun i hi e => by omega); clear f2) | (refine wpList_load_want (by rfl) 35 _ (by rfl) W1.heap.size (by rfl) 35 X (0, 0) _ r2 Try.underlying35 rfl hXsz ?_) | (refine wpList_load_want (by rfl) 35 _ (by rfl) w.heap.size (by rfl) 35 Y (0, 0) _ ((s2.block _ (lt_of_heap r1) (fun f => f)).trans r1) Try.underlying35 rfl hYsz ?_))
    go_ret
    exact ⟨rfl, s0.trans (s1.trans s2)⟩


end Go.Proofs.Ytjlbkagkmcelgaa
