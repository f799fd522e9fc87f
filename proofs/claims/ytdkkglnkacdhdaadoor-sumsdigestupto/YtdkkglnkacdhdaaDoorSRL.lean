/-
  Walks: Digest of any width, tag and parts, the program's and the document's; SumsDigest.
-/
import Derived.Test.YtdkkglnkacdhdaaDoorSRJ
import Derived.Test.YtdkkglnkacdhdaaDoorSV
import Derived.Test.YtdkkglnkacdhdaaDoorSX
namespace Go.Proofs.YtdkkglnkacdhdaaDoor
open Go.RowKit

def tagOk (a : ByteArray) : Prop := 1 ≤ a.size ∧ a.size ≤ 64
instance (a : ByteArray) : Decidable (tagOk a) := by unfold tagOk; infer_instance
def dgR (wd : Int) (tag : ByteArray) (ss : List ByteArray) : List UInt8 := if 1 ≤ wd ∧ wd ≤ 32 then (if tagOk tag then ofR wd (textP tag ss) else List.replicate 32 0) else List.replicate 32 0
def dgE (wd : Int) (tag : ByteArray) : Int := if 1 ≤ wd ∧ wd ≤ 32 then (if tagOk tag then 0 else 20) else 2
theorem dgR_length (wd : Int) (tag : ByteArray) (ss : List ByteArray) : (dgR wd tag ss).length = 32 := by
  unfold dgR
  by_cases h1 : 1 ≤ wd ∧ wd ≤ 32
  · rw [if_pos h1]
    by_cases h2 : tagOk tag
    · rw [if_pos h2]; exact cutR_length wd _ (sha_length _)
    · rw [if_neg h2]; simp
  · rw [if_neg h1]; simp

set_option maxRecDepth 100000 in
set_option maxHeartbeats 1000000 in
theorem digest_calls (w : World) (wd : Int) (tag : ByteArray) (ss : List ByteArray) (pa : Option Addr) (pb po pc : Nat) (hS : SAt w pa pb po ss) (hl : (textP tag ss).length ≤ 1099511627776) (hsl : ss.length ≤ 4194304) :
    Calls Tryd.prog 15 #[.int .i64 wd, .string tag, .slice pa ss.length pc] w fun e w' => e = .returned (.tuple #[.agg (bcells (dgR wd tag ss)).toArray, .int .i64 (dgE wd tag)]) ∧ Same w w' := by
  have HM : Hid (∀ W, Calls Tryd.prog 36 #[.int .i64 wd] W fun e w' => e = .returned (.bool (decide (1 ≤ wd ∧ wd ≤ 32))) ∧ w' = W) := fun W => may_calls W wd
  have hl32 := dgR_length wd tag ss
  obtain ⟨R, hR⟩ : ∃ R, R = (bcells (dgR wd tag ss)).toArray := ⟨_, rfl⟩
  have hRs : R.size = 32 := by rw [hR]; simp [bcells, hl32]
  have hRsz : (Tryd.prog.info? 23).map (·.size) = some R.size := by rw [Tryd.ainfoD, hRs]
  have hRone : R.all (·.oneCell') = true := by rw [hR]; exact bcells_one _
  have HRES : Hid (∀ (tmps : Array Value) (W : World), W.heap[w.heap.size]? = some (.cells R 23 (0, 0)) → tmps.getD 6 undef = .pointer (some ⟨w.heap.size, 0, none⟩) → (results Tryd.f15 tmps).run Tryd.prog W = .ok (.tuple #[.agg R, tmps.getD 7 undef]) W) := fun tmps W h hp => results_row_tmp (p := 6) (u := 7) (ty := 23) (by kernel_rfl) tmps _ w.heap.size 23 _ (0, 0) _ hp h Tryd.underlying23 rfl hRsz
  have HR : Hid (R = (bcells (dgR wd tag ss)).toArray) := hR
  rw [← hR]
  by_cases h1 : 1 ≤ wd ∧ wd ≤ 32
  · rw [decide_eq_true h1] at HM
    by_cases h2 : tagOk tag
    · have e1 : dgR wd tag ss = ofR wd (textP tag ss) := by unfold dgR; rw [if_pos h1, if_pos h2]
      have e2 : dgE wd tag = 0 := by unfold dgE; rw [if_pos h1, if_pos h2]
      rw [e1] at hR
      rw [e2]
      have HT : Hid (∀ W, Same w W → Calls Tryd.prog 37 #[.string tag, .slice pa ss.length pc] W fun e w' => e = .returned (.tuple #[.string ⟨(textP tag ss).toArray⟩, .int .i64 0]) ∧ Same W w') := fun W sW => text_calls W tag h2 ss pa pb po pc (fun e => (hS.place e).1) (hS.same sW).cells (by omega) (by omega)
      have HO : Hid (∀ W, Calls Tryd.prog 12 #[.int .i64 wd, .string ⟨(textP tag ss).toArray⟩] W fun e w' => e = .returned (.tuple #[.agg R, .int .i64 0]) ∧ Same W w') := by
        intro W
        have := of_calls W wd ⟨(textP tag ss).toArray⟩ (by show (textP tag ss).length ≤ _; omega)
        rw [cutE, if_pos h1] at this
        rw [hR]
        exact this
      generalize (textP tag ss).toArray = TA at *
      obtain ⟨n, hn⟩ : ∃ n, n = ss.length := ⟨_, rfl⟩
      rw [← hn] at HT ⊢
      clear hR e1 e2 hl32 hl hsl hS hn h2
      go_enter Tryd.func15, Tryd.ntmps15
      go_wp2_with fail
      refine (HM.out _).mono ?_
      rintro e W1 ⟨rfl, hW1⟩
      obtain ⟨Z, rz, hZ⟩ : ∃ Z : Array Value, W1.heap[w.heap.size]? = some (.cells Z 23 (0, 0)) ∧ Z.size = 32 := by rw [hW1]; exact ⟨_, heap_alloc_new w _, rfl⟩
      have s1 : Same w W1 := by rw [hW1]; exact (Fr.refl _ w).alloc _
      clear hW1
      go_wp2_with fail
      refine (HT.out _ s1).mono ?_
      rintro e W2 ⟨rfl, s2⟩
      go_wp2_with fail
      refine (HO.out _).mono ?_
      rintro e W3 ⟨rfl, s3⟩
      have rz3 : W3.heap[w.heap.size]? = some (.cells Z 23 (0, 0)) := by rw [(s2.trans s3).block _ (lt_of_heap rz) (fun f => f)]; exact rz
      have s03 := s1.trans (s2.trans s3)
      clear s1 s2 s3 rz
      go_wp2_with (first | (refine wpList_store_whole (by rfl) 23 _ _ (by rfl) w.heap.size R Z 23 (by rfl) (by rfl) rz3 (by rw [hRs, hZ]) hRsz hRone ?_; intro W5 r5 f5))
      exact bodyPost_ret (HRES.out _ _ r5 rfl) rfl ⟨rfl, Fr.trans s03 f5 (fun i hi e => by omega)⟩
    · have e1 : dgR wd tag ss = List.replicate 32 0 := by unfold dgR; rw [if_pos h1, if_neg h2]
      have e2 : dgE wd tag = 20 := by unfold dgE; rw [if_pos h1, if_neg h2]
      rw [e1] at HR
      rw [e2]
      have HT : Hid (∀ W, Calls Tryd.prog 37 #[.string tag, .slice pa ss.length pc] W fun e w' => e = .returned (.tuple #[.string ⟨#[]⟩, .int .i64 20]) ∧ w' = W) := fun W => text_bad W tag h2 _
      have hzv : ∀ W, (zeroValue 23).run Tryd.prog W = .ok (.agg R) W := by rw [HR.out]; exact fun W => by kernel_rfl
      obtain ⟨n, hn⟩ : ∃ n, n = ss.length := ⟨_, rfl⟩
      rw [← hn] at HT ⊢
      clear hR e1 e2 hl32 hl hsl hS hn h2
      go_enter Tryd.func15, Tryd.ntmps15
      go_wp2_with fail
      refine (HM.out _).mono ?_
      rintro e W1 ⟨rfl, hW1⟩
      obtain ⟨Z, rz, hZ⟩ : ∃ Z : Array Value, W1.heap[w.heap.size]? = some (.cells Z 23 (0, 0)) ∧ Z.size = 32 := by rw [hW1]; exact ⟨_, heap_alloc_new w _, hRs⟩
      have s1 : Same w W1 := by rw [hW1]; exact (Fr.refl _ w).alloc _
      clear hW1
      go_wp2_with fail
      refine (HT.out _).mono ?_
      rintro e W2 ⟨rfl, hW2⟩
      rw [hW2]
      clear hW2
      go_wp2_with (first | (refine wpList_store_whole (by rfl) 23 _ _ (by rfl) w.heap.size R Z 23 (by rfl) (by rfl) rz (by rw [hRs, hZ]) hRsz hRone ?_; intro W5 r5 f5))
      exact bodyPost_ret (HRES.out _ _ r5 rfl) rfl ⟨rfl, Fr.trans s1 f5 (fun i hi e => by omega)⟩
  · rw [decide_eq_false h1] at HM
    have e1 : dgR wd tag ss = List.replicate 32 0 := by unfold dgR; rw [if_neg h1]
    have e2 : dgE wd tag = 2 := by unfold dgE; rw [if_neg h1]
    rw [e1] at HR
    rw [e2]
    have hzv : ∀ W, (zeroValue 23).run Tryd.prog W = .ok (.agg R) W := by rw [HR.out]; exact fun W => by kernel_rfl
    obtain ⟨n, hn⟩ : ∃ n, n = ss.length := ⟨_, rfl⟩
    rw [← hn]
    clear hR e1 e2 hl32 hl hsl hS hn
    go_enter Tryd.func15, Tryd.ntmps15
    go_wp2_with fail
    refine (HM.out _).mono ?_
    rintro e W1 ⟨rfl, hW1⟩
    obtain ⟨Z, rz, hZ⟩ : ∃ Z : Array Value, W1.heap[w.heap.size]? = some (.cells Z 23 (0, 0)) ∧ Z.size = 32 := by rw [hW1]; exact ⟨_, heap_alloc_new w _, hRs⟩
    have s1 : Same w W1 := by rw [hW1]; exact (Fr.refl _ w).alloc _
    clear hW1
    go_wp2_with (first | (refine wpList_store_whole (by rfl) 23 _ _ (by rfl) w.heap.size R Z 23 (by rfl) (by rfl) rz (by rw [hRs, hZ]) hRsz hRone ?_; intro W5 r5 f5))
    exact bodyPost_ret (HRES.out _ _ r5 rfl) rfl ⟨rfl, Fr.trans s1 f5 (fun i hi e => by omega)⟩

set_option maxRecDepth 100000 in
set_option maxHeartbeats 1000000 in
theorem rdigest_calls (w : World) (wd : Int) (tag : ByteArray) (ss : List ByteArray) (pa : Option Addr) (pb po pc : Nat) (hS : SAt w pa pb po ss) (hl : (textP tag ss).length ≤ 1099511627776) (hsl : ss.length ≤ 4194304) :
    Calls Tryd.prog 16 #[.int .i64 wd, .string tag, .slice pa ss.length pc] w fun e w' => e = .returned (.tuple #[.agg (bcells (dgR wd tag ss)).toArray, .int .i64 (dgE wd tag)]) ∧ Same w w' := by
  have HM : Hid (∀ W, Calls Tryd.prog 38 #[.int .i64 wd] W fun e w' => e = .returned (.bool (decide (1 ≤ wd ∧ wd ≤ 32))) ∧ w' = W) := fun W => rmay_calls W wd
  have hl32 := dgR_length wd tag ss
  obtain ⟨R, hR⟩ : ∃ R, R = (bcells (dgR wd tag ss)).toArray := ⟨_, rfl⟩
  have hRs : R.size = 32 := by rw [hR]; simp [bcells, hl32]
  have hRsz : (Tryd.prog.info? 23).map (·.size) = some R.size := by rw [Tryd.ainfoD, hRs]
  have hRone : R.all (·.oneCell') = true := by rw [hR]; exact bcells_one _
  have HRES : Hid (∀ (tmps : Array Value) (W : World), W.heap[w.heap.size]? = some (.cells R 23 (0, 0)) → tmps.getD 6 undef = .pointer (some ⟨w.heap.size, 0, none⟩) → (results Tryd.f16 tmps).run Tryd.prog W = .ok (.tuple #[.agg R, tmps.getD 7 undef]) W) := fun tmps W h hp => results_row_tmp (p := 6) (u := 7) (ty := 23) (by kernel_rfl) tmps _ w.heap.size 23 _ (0, 0) _ hp h Tryd.underlying23 rfl hRsz
  have HR : Hid (R = (bcells (dgR wd tag ss)).toArray) := hR
  rw [← hR]
  by_cases h1 : 1 ≤ wd ∧ wd ≤ 32
  · rw [decide_eq_true h1] at HM
    by_cases h2 : tagOk tag
    · have e1 : dgR wd tag ss = ofR wd (textP tag ss) := by unfold dgR; rw [if_pos h1, if_pos h2]
      have e2 : dgE wd tag = 0 := by unfold dgE; rw [if_pos h1, if_pos h2]
      rw [e1] at hR
      rw [e2]
      have HT : Hid (∀ W, Same w W → Calls Tryd.prog 39 #[.string tag, .slice pa ss.length pc] W fun e w' => e = .returned (.tuple #[.string ⟨(textP tag ss).toArray⟩, .int .i64 0]) ∧ Same W w') := fun W sW => rtext_calls W tag h2 ss pa pb po pc (fun e => (hS.place e).1) (hS.same sW).cells (by omega) (by omega)
      have HO : Hid (∀ W, Calls Tryd.prog 13 #[.int .i64 wd, .string ⟨(textP tag ss).toArray⟩] W fun e w' => e = .returned (.tuple #[.agg R, .int .i64 0]) ∧ Same W w') := by
        intro W
        have := rof_calls W wd ⟨(textP tag ss).toArray⟩ (by show (textP tag ss).length ≤ _; omega)
        rw [cutE, if_pos h1] at this
        rw [hR]
        exact this
      generalize (textP tag ss).toArray = TA at *
      obtain ⟨n, hn⟩ : ∃ n, n = ss.length := ⟨_, rfl⟩
      rw [← hn] at HT ⊢
      clear hR e1 e2 hl32 hl hsl hS hn h2
      go_enter Tryd.func16, Tryd.ntmps16
      go_wp2_with fail
      refine (HM.out _).mono ?_
      rintro e W1 ⟨rfl, hW1⟩
      obtain ⟨Z, rz, hZ⟩ : ∃ Z : Array Value, W1.heap[w.heap.size]? = some (.cells Z 23 (0, 0)) ∧ Z.size = 32 := by rw [hW1]; exact ⟨_, heap_alloc_new w _, rfl⟩
      have s1 : Same w W1 := by rw [hW1]; exact (Fr.refl _ w).alloc _
      clear hW1
      go_wp2_with fail
      refine (HT.out _ s1).mono ?_
      rintro e W2 ⟨rfl, s2⟩
      go_wp2_with fail
      refine (HO.out _).mono ?_
      rintro e W3 ⟨rfl, s3⟩
      have rz3 : W3.heap[w.heap.size]? = some (.cells Z 23 (0, 0)) := by rw [(s2.trans s3).block _ (lt_of_heap rz) (fun f => f)]; exact rz
      have s03 := s1.trans (s2.trans s3)
      clear s1 s2 s3 rz
      go_wp2_with (first | (refine wpList_store_whole (by rfl) 23 _ _ (by rfl) w.heap.size R Z 23 (by rfl) (by rfl) rz3 (by rw [hRs, hZ]) hRsz hRone ?_; intro W5 r5 f5))
      exact bodyPost_ret (HRES.out _ _ r5 rfl) rfl ⟨rfl, Fr.trans s03 f5 (fun i hi e => by omega)⟩
    · have e1 : dgR wd tag ss = List.replicate 32 0 := by unfold dgR; rw [if_pos h1, if_neg h2]
      have e2 : dgE wd tag = 20 := by unfold dgE; rw [if_pos h1, if_neg h2]
      rw [e1] at HR
      rw [e2]
      have HT : Hid (∀ W, Calls Tryd.prog 39 #[.string tag, .slice pa ss.length pc] W fun e w' => e = .returned (.tuple #[.string ⟨#[]⟩, .int .i64 20]) ∧ w' = W) := fun W => rtext_bad W tag h2 _
      have hzv : ∀ W, (zeroValue 23).run Tryd.prog W = .ok (.agg R) W := by rw [HR.out]; exact fun W => by kernel_rfl
      obtain ⟨n, hn⟩ : ∃ n, n = ss.length := ⟨_, rfl⟩
      rw [← hn] at HT ⊢
      clear hR e1 e2 hl32 hl hsl hS hn h2
      go_enter Tryd.func16, Tryd.ntmps16
      go_wp2_with fail
      refine (HM.out _).mono ?_
      rintro e W1 ⟨rfl, hW1⟩
      obtain ⟨Z, rz, hZ⟩ : ∃ Z : Array Value, W1.heap[w.heap.size]? = some (.cells Z 23 (0, 0)) ∧ Z.size = 32 := by rw [hW1]; exact ⟨_, heap_alloc_new w _, hRs⟩
      have s1 : Same w W1 := by rw [hW1]; exact (Fr.refl _ w).alloc _
      clear hW1
      go_wp2_with fail
      refine (HT.out _).mono ?_
      rintro e W2 ⟨rfl, hW2⟩
      rw [hW2]
      clear hW2
      go_wp2_with (first | (refine wpList_store_whole (by rfl) 23 _ _ (by rfl) w.heap.size R Z 23 (by rfl) (by rfl) rz (by rw [hRs, hZ]) hRsz hRone ?_; intro W5 r5 f5))
      exact bodyPost_ret (HRES.out _ _ r5 rfl) rfl ⟨rfl, Fr.trans s1 f5 (fun i hi e => by omega)⟩
  · rw [decide_eq_false h1] at HM
    have e1 : dgR wd tag ss = List.replicate 32 0 := by unfold dgR; rw [if_neg h1]
    have e2 : dgE wd tag = 2 := by unfold dgE; rw [if_neg h1]
    rw [e1] at HR
    rw [e2]
    have hzv : ∀ W, (zeroValue 23).run Tryd.prog W = .ok (.agg R) W := by rw [HR.out]; exact fun W => by kernel_rfl
    obtain ⟨n, hn⟩ : ∃ n, n = ss.length := ⟨_, rfl⟩
    rw [← hn]
    clear hR e1 e2 hl32 hl hsl hS hn
    go_enter Tryd.func16, Tryd.ntmps16
    go_wp2_with fail
    refine (HM.out _).mono ?_
    rintro e W1 ⟨rfl, hW1⟩
    obtain ⟨Z, rz, hZ⟩ : ∃ Z : Array Value, W1.heap[w.heap.size]? = some (.cells Z 23 (0, 0)) ∧ Z.size = 32 := by rw [hW1]; exact ⟨_, heap_alloc_new w _, hRs⟩
    have s1 : Same w W1 := by rw [hW1]; exact (Fr.refl _ w).alloc _
    clear hW1
    go_wp2_with (first | (refine wpList_store_whole (by rfl) 23 _ _ (by rfl) w.heap.size R Z 23 (by rfl) (by rfl) rz (by rw [hRs, hZ]) hRsz hRone ?_; intro W5 r5 f5))
    exact bodyPost_ret (HRES.out _ _ r5 rfl) rfl ⟨rfl, Fr.trans s1 f5 (fun i hi e => by omega)⟩

theorem Lent.sat {w w' : World} {ss : List ByteArray} {g cap : Nat} (h : Lent w w' ss g cap) : SAt w' (some ⟨g, 0, none⟩) g 0 ss := by
  refine ⟨fun e => ⟨rfl, (h.1.lt g rfl).2⟩, fun j s hj => ?_⟩
  have := h.1.cells (g := g) rfl j (.string s) (by
    simp only [scells, List.getElem?_map, List.getElem?_append_left (List.getElem?_eq_some_iff.1 hj).1, hj]; rfl)
  rw [Addr.add_mid] at this
  exact this
theorem Lent.same {w w' W : World} {ss : List ByteArray} {g cap : Nat} (h : Lent w w' ss g cap) (s3 : Same w' W) : Lent w W ss g cap := by
  refine ⟨⟨h.1.1, ?_⟩, h.2.1, h.2.2.trans s3⟩
  rcases h.1.2 with hh | ⟨a1, a2, a3, a4, a5, a6, a7⟩
  · exact Or.inl hh
  · exact Or.inr ⟨a1, a2, a3, a4, a5, by rw [s3.block a1 (lt_of_heap a6) (fun f => f)]; exact a6, a7⟩

set_option maxRecDepth 100000 in
set_option maxHeartbeats 1000000 in
theorem sdig_walk {w : World} (ht : TabAt w) (wd : Int) (tag : ByteArray) {pa : Option Addr} {pb po pc : Nat} {ss : List ByteArray} (h : SAt w pa pb po ss) (hl : ss.length ≤ 4194304) (hx : (textP tag ss).length ≤ 1099511627776) :
    Calls Tryd.prog 5 #[.int .i64 wd, .string tag, .slice pa ss.length pc] w fun e w' => e = .returned (.bool true) ∧ Same w w' := by
  have HL : Hid (Calls Tryd.prog 14 #[.slice pa ss.length pc] w fun e w' => ∃ g cap, e = .returned (.slice (some ⟨g, 0, none⟩) ss.length cap) ∧ Lent w w' ss g cap) := lent_calls h hl
  have HD : Hid (∀ W g cap, SAt W (some ⟨g, 0, none⟩) g 0 ss → Calls Tryd.prog 15 #[.int .i64 wd, .string tag, .slice (some ⟨g, 0, none⟩) ss.length cap] W fun e w' => e = .returned (.tuple #[.agg (bcells (dgR wd tag ss)).toArray, .int .i64 (dgE wd tag)]) ∧ Same W w') := fun W g cap hS => digest_calls W wd tag ss _ g 0 cap hS hx hl
  have HR : Hid (∀ W, Same w W → Calls Tryd.prog 16 #[.int .i64 wd, .string tag, .slice pa ss.length pc] W fun e w' => e = .returned (.tuple #[.agg (bcells (dgR wd tag ss)).toArray, .int .i64 (dgE wd tag)]) ∧ Same W w') := fun W sW => rdigest_calls W wd tag ss pa pb po pc (h.same sW) hx hl
  have HK : Hid (∀ W0 W g cap, Same w W → Lent W0 W ss g cap → Calls Tryd.prog 17 #[.slice (some ⟨g, 0, none⟩) ss.length cap, .slice pa ss.length pc] W fun e w' => e = .returned (.bool true) ∧ Same W w') := fun W0 W g cap sW hLe => kept_calls (h.same sW) hl hLe
  have HA : Hid (∀ W, Same w W → Calls Tryd.prog 11 #[] W fun e w' => e = .returned (.bool true) ∧ Same W w') := fun W s => awake_calls W (ht.same s)
  have l32 := dgR_length wd tag ss
  have hEq := eq_same (dgR wd tag ss) l32
  have hXs : (bcells (dgR wd tag ss)).toArray.size = 32 := by simp [bcells, l32]
  have hXone := bcells_one (dgR wd tag ss)
  generalize (bcells (dgR wd tag ss)).toArray = X at *
  generalize dgE wd tag = ce at *
  have hXsz : (Tryd.prog.info? 23).map (·.size) = some X.size := by rw [Tryd.ainfoD, hXs]
  obtain ⟨n, hn⟩ : ∃ n, n = ss.length := ⟨_, rfl⟩
  rw [← hn] at HL HD HR HK ⊢
  clear ht h hl hx hn l32
  go_enter Tryd.func5, Tryd.ntmps5
  go_wp2_with fail
  refine HL.out.mono ?_
  rintro e W0 ⟨g0, cap0, rfl, l0⟩
  have s0 := l0.2.2
  have H0 : Hid (Lent w W0 ss g0 cap0) := l0
  clear l0
  go_wp2_with fail
  refine (HD.out W0 g0 cap0 H0.out.sat).mono ?_
  rintro e W1 ⟨rfl, s1⟩
  go_wp2_with (first | (refine wpList_store_whole (by rfl) 23 _ _ (by rfl) W1.heap.size X _ 23 (by rfl) (by rfl) (heap_alloc_new W1 _) (by rw [hXs]; rfl) hXsz hXone ?_; intro W2 r2 f2; have s2 : Same W1 W2 := Fr.trans ((Fr.refl _ W1).alloc _) f2 (fun i hi e => by omega); clear f2))
  refine (HR.out W2 (s0.trans (s1.trans s2))).mono ?_
  rintro e W3 ⟨rfl, s3⟩
  have r3 : W3.heap[W1.heap.size]? = some (.cells X 23 (0, 0)) := by rw [s3.block _ (lt_of_heap r2) (fun f => f)]; exact r2
  clear r2
  go_wp2_with (first | (refine wpList_store_whole (by rfl) 23 _ _ (by rfl) W3.heap.size X _ 23 (by rfl) (by rfl) (heap_alloc_new W3 _) (by rw [hXs]; rfl) hXsz hXone ?_; intro W4 r4 f4; have s4 : Same W3 W4 := Fr.trans ((Fr.refl _ W3).alloc _) f4 (fun i hi e => by omega); clear f4) | (refine wpList_load_want (by rfl) 23 _ (by rfl) W1.heap.size (by rfl) 23 X (0, 0) _ ((s4.block _ (lt_of_heap r3) (fun f => f)).trans r3) Tryd.underlying23 rfl hXsz ?_) | (refine wpList_load_want (by rfl) 23 _ (by rfl) W3.heap.size (by rfl) 23 X (0, 0) _ r4 Tryd.underlying23 rfl hXsz ?_))
  have s04 := s0.trans (s1.trans (s2.trans (s3.trans s4)))
  have sL := s1.trans (s2.trans (s3.trans s4))
  refine (HK.out w W4 g0 cap0 s04 (H0.out.same sL)).mono ?_
  rintro e W5 ⟨rfl, s5⟩
  have s05 := s04.trans s5
  have HA5 := HA.out W5 s05
  clear s0 s1 s2 s3 s4 s5 s04 sL r3 r4
  go_wp2_with fail
  refine HA5.mono ?_
  rintro e W6 ⟨rfl, s6⟩
  go_wp2_with fail
  go_ret
  exact ⟨rfl, s05.trans s6⟩
end Go.Proofs.YtdkkglnkacdhdaaDoor
