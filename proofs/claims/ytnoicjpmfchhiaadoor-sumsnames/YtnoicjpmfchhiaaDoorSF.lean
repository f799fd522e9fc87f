/-
  Walks: Text.
-/
import Derived.Test.YtnoicjpmfchhiaaDoorSE
namespace Go.Proofs.YtnoicjpmfchhiaaDoor
open Go.RowKit

set_option maxRecDepth 100000 in
set_option maxHeartbeats 400000 in
theorem isTag_calls (w : World) (n : Int) : Calls Tryd.prog 22 #[.int .i64 n] w fun e w' => e = .returned (.bool (decide (1 ≤ n ∧ n ≤ 64))) ∧ w' = w := by
  by_cases h1 : 1 ≤ n
  · by_cases h2 : n ≤ 64
    · rw [decide_eq_true ⟨h1, h2⟩]
      go_enter Tryd.func22, Tryd.ntmps22
      go_wp2
      go_ret
      exact ⟨rfl, rfl⟩
    · rw [decide_eq_false (by omega)]
      go_enter Tryd.func22, Tryd.ntmps22
      go_wp2
      go_ret
      exact ⟨rfl, rfl⟩
  · rw [decide_eq_false (by omega)]
    go_enter Tryd.func22, Tryd.ntmps22
    go_wp2
    go_ret
    exact ⟨rfl, rfl⟩

/-- A part's bytes in a text. -/
def partB (s : ByteArray) : List UInt8 := by4 (UInt32.ofNat s.size) ++ s.data.toList
/-- The text of a tag and parts. -/
def textP (tag : ByteArray) (ss : List ByteArray) : List UInt8 := UInt8.ofNat tag.size :: tag.data.toList ++ ss.flatMap partB
theorem textP_snoc (tag : ByteArray) (ss : List ByteArray) (s : ByteArray) : textP tag (ss ++ [s]) = textP tag ss ++ by4 (UInt32.ofNat s.size) ++ s.data.toList := by
  unfold textP
  rw [List.flatMap_append]
  simp [partB]
theorem textP_take_le (tag : ByteArray) (ss : List ByteArray) (k : Nat) : (textP tag (ss.take k)).length ≤ (textP tag ss).length := by
  unfold textP
  have : ss.flatMap partB = (ss.take k).flatMap partB ++ (ss.drop k).flatMap partB := by rw [← List.flatMap_append, List.take_append_drop]
  rw [this]
  simp
theorem textP_none (tag : ByteArray) : textP tag [] = UInt8.ofNat tag.size :: tag.data.toList := by simp [textP]

set_option maxRecDepth 100000 in
set_option maxHeartbeats 1000000 in
theorem text_none (w : World) (tag : ByteArray) (ht : 1 ≤ tag.size ∧ tag.size ≤ 64) :
    Calls Tryd.prog 14 #[.string tag, .slice none 0 0] w fun e w' => e = .returned (.tuple #[.string ⟨(textP tag []).toArray⟩, .int .i64 0]) ∧ Same w w' := by
  have HT : Hid (∀ W, Calls Tryd.prog 22 #[.int .i64 tag.size] W fun e w' => e = .returned (.bool true) ∧ w' = W) := by
    intro W
    have := isTag_calls W tag.size
    rw [decide_eq_true (by omega)] at this
    exact this
  obtain ⟨t0, ht0⟩ : ∃ t : UInt8, t = UInt8.ofNat tag.size := ⟨_, rfl⟩
  have hw0 : (tag.size : Int) % 256 = (t0.toNat : Int) := by rw [ht0, UInt8.toNat_ofNat']; omega
  have hw1 : IntKind.u8.wrap (tag.size : Int) = (t0.toNat : Int) := by rw [IntKind.wrap_u8]; exact hw0
  have HT0 : Hid (textP tag [] = t0 :: tag.data.toList) := by show _ = _; rw [textP_none, ht0]
  obtain ⟨i0, hi, hi0, hi1, hi2⟩ := info_parts Tryd.info5
  clear ht0
  go_enter Tryd.func14, Tryd.ntmps14
  go_wp2_with fail
  refine (HT.out _).mono ?_
  rintro e W1 ⟨rfl, hW1⟩
  rw [hW1]
  clear hW1
  have hown1 : Owns (w.alloc (.cells #[.int .u8 (t0.toNat : Int)] 5)) (.slice (some ⟨w.heap.size, 0, none⟩) ([t0] : List UInt8).length 1) [t0] := ⟨rfl, Or.inr ⟨w.heap.size, 1, #[.int .u8 (t0.toNat : Int)], rfl, Nat.zero_le _, heap_alloc_new w _, Nat.le_refl _, by decide, rfl, rfl⟩⟩
  go_wp2_with (at_builtin; go_must (refine wpList_append_str _ (by rfl) _ _ 52 9 (by rfl) 5 i0 Tryd.underlying52 Tryd.underlying9 hi hi0 hi1 hi2 _ _ _ (by rfl) hown1 tag (by rfl) (by show 1 + tag.size ≤ _; omega) ?_; intro ao2 c2 W2 hown2 hgrow2 hat2))
  have hl2 : (t0 :: tag.data.toList).length = 1 + tag.size := by rw [List.length_cons, bytes_length]; omega
  have o2 : Owns W2 (.slice ao2 (t0 :: tag.data.toList).length c2) (t0 :: tag.data.toList) := by
    show World.ownsRow _ _ _ _ _ _ _
    rw [hl2]
    exact hown2
  have hcv := owns_string (P := Tryd.prog) o2 52 9 Tryd.underlying52 Tryd.underlying5 Tryd.underlying9
  rw [hl2, ← HT0.out] at hcv
  have s2 : Same w W2 := Fr.grown ((Fr.refl _ w).alloc _) hgrow2 (fun k hk hlt => by simp [Value.ownBlock] at hk; omega)
  clear hown1 hown2 hgrow2 hat2 o2 hl2
  refine wp_loop_rounds 1 ?_
  rw [rounds_succ]
  go_wp2_with fail
  go_ret2
  exact ⟨rfl, s2⟩

set_option maxRecDepth 100000 in
set_option maxHeartbeats 1000000 in
theorem digest_none (w : World) (wd : Int) (hwd : 1 ≤ wd ∧ wd ≤ 32) (tag : ByteArray) (ht : 1 ≤ tag.size ∧ tag.size ≤ 64) :
    Calls Tryd.prog 8 #[.int .i64 wd, .string tag, .slice none 0 0] w fun e w' => e = .returned (.tuple #[.agg (bcells (ofR wd (textP tag []))).toArray, .int .i64 0]) ∧ Same w w' := by
  have HM : Hid (∀ W, Calls Tryd.prog 13 #[.int .i64 wd] W fun e w' => e = .returned (.bool true) ∧ w' = W) := by
    intro W
    have := may_calls W wd
    rw [decide_eq_true hwd] at this
    exact this
  have HT : Hid (∀ W, Calls Tryd.prog 14 #[.string tag, .slice none 0 0] W fun e w' => e = .returned (.tuple #[.string ⟨(textP tag []).toArray⟩, .int .i64 0]) ∧ Same W w') := fun W => text_none W tag ht
  have htl : (textP tag []).length ≤ 65 := by rw [textP_none, List.length_cons, bytes_length]; omega
  have HO : Hid (∀ W, Calls Tryd.prog 15 #[.int .i64 wd, .string ⟨(textP tag []).toArray⟩] W fun e w' => e = .returned (.tuple #[.agg (bcells (ofR wd (textP tag []))).toArray, .int .i64 0]) ∧ Same W w') := by
    intro W
    have := of_calls W wd ⟨(textP tag []).toArray⟩ (by show (textP tag []).length ≤ _; omega)
    rw [cutE, if_pos hwd] at this
    exact this
  have hl := cutR_length wd (sha (textP tag [])) (sha_length _)
  obtain ⟨R, hR⟩ : ∃ R, R = (bcells (ofR wd (textP tag []))).toArray := ⟨_, rfl⟩
  have hRs : R.size = 32 := by rw [hR]; simp [bcells, ofR, hl]
  have hRsz : (Tryd.prog.info? 29).map (·.size) = some R.size := by rw [Tryd.ainfoD, hRs]
  have hRone : R.all (·.oneCell') = true := by rw [hR]; exact bcells_one _
  have HRES : Hid (∀ (tmps : Array Value) (W : World), W.heap[w.heap.size]? = some (.cells R 29 (0, 0)) → tmps.getD 6 undef = .pointer (some ⟨w.heap.size, 0, none⟩) → (results Tryd.f8 tmps).run Tryd.prog W = .ok (.tuple #[.agg R, tmps.getD 7 undef]) W) := fun tmps W h hp => results_row_tmp (p := 6) (u := 7) (ty := 29) (by kernel_rfl) tmps _ w.heap.size 29 _ (0, 0) _ hp h Tryd.underlying29 rfl hRsz
  rw [← hR] at HO ⊢
  clear hR hl htl
  generalize (textP tag []).toArray = TA at *
  go_enter Tryd.func8, Tryd.ntmps8
  go_wp2_with fail
  refine (HM.out _).mono ?_
  rintro e W1 ⟨rfl, hW1⟩
  obtain ⟨Z, rz, hZ⟩ : ∃ Z : Array Value, W1.heap[w.heap.size]? = some (.cells Z 29 (0, 0)) ∧ Z.size = 32 := by rw [hW1]; exact ⟨_, heap_alloc_new w _, rfl⟩
  have s1 : Same w W1 := by rw [hW1]; exact (Fr.refl _ w).alloc _
  clear hW1
  go_wp2_with fail
  refine (HT.out _).mono ?_
  rintro e W2 ⟨rfl, s2⟩
  go_wp2_with fail
  refine (HO.out _).mono ?_
  rintro e W3 ⟨rfl, s3⟩
  have rz3 : W3.heap[w.heap.size]? = some (.cells Z 29 (0, 0)) := by rw [(s2.trans s3).block _ (lt_of_heap rz) (fun f => f)]; exact rz
  have s03 := s1.trans (s2.trans s3)
  clear s1 s2 s3 rz
  go_wp2_with (first | (refine wpList_store_whole (by rfl) 29 _ _ (by rfl) w.heap.size R Z 29 (by rfl) (by rfl) rz3 (by rw [hRs, hZ]) hRsz hRone ?_; intro W5 r5 f5))
  exact bodyPost_ret (HRES.out _ _ r5 rfl) rfl ⟨rfl, Fr.trans s03 f5 (fun i hi e => by omega)⟩
end Go.Proofs.YtnoicjpmfchhiaaDoor
