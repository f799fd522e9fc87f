/-
  Walks: a Hash that is none.
-/
import Derived.Test.YtcbnaopcehhdeaaDoorSI
namespace Go.Proofs.YtcbnaopcehhdeaaDoor
open Go.RowKit

/-- p points to no Hash, in every world that has kept what w had. -/
def Gone (w : World) (p : Option Addr) : Prop := ∀ W, Same w W → Calls Tryd.prog 34 #[.pointer p] W fun e w' => e = .returned (.bool false) ∧ w' = W
theorem Gone.same {w w' : World} {p : Option Addr} (h : Gone w p) (s : Same w w') : Gone w' p := fun W sW => h W (s.trans sW)
theorem gone_nil (w : World) : Gone w none := fun W _ => there_nil W
theorem gone_unmade {w : World} {b : Nat} (h : w.cell? ⟨b, 0, none⟩ = some (.bool false)) : Gone w (some ⟨b, 0, none⟩) := fun _ sW => there_unmade (sW.keep h)

set_option maxRecDepth 100000 in
theorem write_gone {w : World} {p : Option Addr} (h : Gone w p) (v : Value) : Calls Tryd.prog 24 #[.pointer p, v] w fun e w' => e = .returned (.tuple #[]) ∧ w' = w := by
  have HG : Hid (Gone w p) := h
  clear h
  go_enter Tryd.func24, Tryd.ntmps24
  go_wp2_with fail
  refine (HG.out w (Fr.refl _ _)).mono ?_
  rintro e W1 ⟨rfl, hW1⟩
  rw [hW1]
  clear hW1
  go_wp2_with fail
  go_returns
  exact ⟨rfl, rfl⟩
set_option maxRecDepth 100000 in
theorem len_gone {w : World} {p : Option Addr} (h : Gone w p) : Calls Tryd.prog 25 #[.pointer p] w fun e w' => e = .returned (.int .i64 0) ∧ w' = w := by
  have HG : Hid (Gone w p) := h
  clear h
  go_enter Tryd.func25, Tryd.ntmps25
  go_wp2_with fail
  refine (HG.out w (Fr.refl _ _)).mono ?_
  rintro e W1 ⟨rfl, hW1⟩
  rw [hW1]
  clear hW1
  go_wp2_with fail
  go_ret
  exact ⟨rfl, rfl⟩
set_option maxRecDepth 100000 in
theorem clone_gone {w : World} {p : Option Addr} (h : Gone w p) : Calls Tryd.prog 27 #[.pointer p] w fun e w' => e = .returned (.pointer none) ∧ w' = w := by
  have HG : Hid (Gone w p) := h
  clear h
  go_enter Tryd.func27, Tryd.ntmps27
  go_wp2_with fail
  refine (HG.out w (Fr.refl _ _)).mono ?_
  rintro e W1 ⟨rfl, hW1⟩
  rw [hW1]
  clear hW1
  go_wp2_with fail
  go_ret
  exact ⟨rfl, rfl⟩
def zeroD : List UInt8 := List.replicate 32 0
set_option maxRecDepth 100000 in
set_option maxHeartbeats 400000 in
theorem hsum_gone {w : World} {p : Option Addr} (h : Gone w p) : Calls Tryd.prog 26 #[.pointer p] w fun e w' => e = .returned (.agg (bcells zeroD).toArray) ∧ Same w w' := by
  have HG : Hid (Gone w p) := h
  obtain ⟨R, hR⟩ : ∃ R, R = (bcells zeroD).toArray := ⟨_, rfl⟩
  have hzv : ∀ W, (zeroValue 41).run Tryd.prog W = .ok (.agg R) W := by rw [hR]; exact fun W => by kernel_rfl
  have hRs : R.size = 32 := by rw [hR]; rfl
  have hRsz : (Tryd.prog.info? 41).map (·.size) = some R.size := by rw [Tryd.ainfoD, hRs]
  have hRone : R.all (·.oneCell') = true := by rw [hR]; exact bcells_one _
  have HRES : Hid (∀ (tmps : Array Value) (W : World), W.heap[w.heap.size]? = some (.cells R 41 (0, 0)) → tmps.getD 2 undef = .pointer (some ⟨w.heap.size, 0, none⟩) → (results Tryd.f26 tmps).run Tryd.prog W = .ok (.agg R) W) := fun tmps W h hp => results_cell_row (p := 2) (ty := 41) (by kernel_rfl) tmps _ w.heap.size 41 _ (0, 0) _ hp h Tryd.underlying41 rfl hRsz
  rw [← hR]
  clear hR h
  go_enter Tryd.func26, Tryd.ntmps26
  go_wp2_with fail
  refine (HG.out _ ((Fr.refl _ w).alloc _)).mono ?_
  rintro e W1 ⟨rfl, hW1⟩
  obtain ⟨Z, rz, hZ⟩ : ∃ Z : Array Value, W1.heap[w.heap.size]? = some (.cells Z 41 (0, 0)) ∧ Z.size = 32 := by rw [hW1]; exact ⟨_, heap_alloc_new w _, hRs⟩
  have s1 : Same w W1 := by rw [hW1]; exact (Fr.refl _ w).alloc _
  clear hW1
  go_wp2_with (first | (refine wpList_store_whole (by rfl) 41 _ _ (by rfl) w.heap.size R Z 41 (by rfl) (by rfl) rz (by rw [hRs, hZ]) hRsz hRone ?_; intro W5 r5 f5))
  exact bodyPost_ret (HRES.out _ _ r5 rfl) rfl ⟨rfl, Fr.trans s1 f5 (fun i hi e => by omega)⟩

set_option maxRecDepth 100000 in
set_option maxHeartbeats 400000 in
theorem nothing_gone {w : World} {p : Option Addr} (h : Gone w p) (v : Value) : Calls Tryd.prog 15 #[.pointer p, v] w fun e w' => e = .returned (.bool true) ∧ Same w w' := by
  have HG : Hid (Gone w p) := h
  have HS : Hid (∀ W, Gone W p → Calls Tryd.prog 26 #[.pointer p] W fun e w' => e = .returned (.agg (bcells zeroD).toArray) ∧ Same W w') := fun W hW => hsum_gone hW
  have hEq := fun W => eq_digest W zeroD zeroD rfl rfl
  have hzv : ∀ W, (zeroValue 41).run Tryd.prog W = .ok (.agg (bcells zeroD).toArray) W := fun W => by kernel_rfl
  generalize (bcells zeroD).toArray = R at *
  have hEq' : ∀ W, (Op.equalIn 10000 41 (.agg R) (.agg R)).run Tryd.prog W = .ok true W := by simpa using hEq
  clear h hEq
  go_enter Tryd.func15, Tryd.ntmps15
  go_wp2_with fail
  refine (write_gone HG.out v).mono ?_
  rintro e W1 ⟨rfl, hW1⟩
  rw [hW1]
  clear hW1
  go_wp2_with fail
  refine (len_gone HG.out).mono ?_
  rintro e W1 ⟨rfl, hW1⟩
  rw [hW1]
  clear hW1
  go_wp2_with fail
  refine (HS.out _ HG.out).mono ?_
  rintro e W2 ⟨rfl, s2⟩
  have HG2 : Hid (Gone W2 p) := HG.out.same s2
  go_wp2_with fail
  refine (clone_gone HG2.out).mono ?_
  rintro e W3 ⟨rfl, hW3⟩
  rw [hW3]
  clear hW3
  go_wp2_with fail
  go_ret
  exact ⟨rfl, s2⟩

set_option maxRecDepth 100000 in
set_option maxHeartbeats 400000 in
theorem snil_walk {w : World} (ht : TabAt w) {pa : Option Addr} {pb po pc : Nat} {ss : List ByteArray} (h : SAt w pa pb po ss) (hl : ss.length ≤ 4194304) :
    Calls Tryd.prog 5 #[.slice pa ss.length pc] w fun e w' => e = .returned (.bool true) ∧ Same w w' := by
  have HL : Hid (∀ W, Same w W → Calls Tryd.prog 7 #[.slice pa ss.length pc] W fun e w' => ∃ g cap, e = .returned (.slice (some ⟨g, 0, none⟩) ss.length cap) ∧ Lent W w' ss g cap) := fun W sW => lent_calls (h.same sW) hl
  have HT : Hid (TabAt w) := ht
  have HN : Hid (∀ W p v, Gone W p → Calls Tryd.prog 15 #[.pointer p, v] W fun e w' => e = .returned (.bool true) ∧ Same W w') := fun W p v hW => nothing_gone hW v
  have hz : ∀ W, (zeroValue 38).run Tryd.prog W = .ok (.agg #[.bool false, .int .u32 0, .int .u32 0, .int .u32 0, .int .u32 0, .int .u32 0, .int .u32 0, .int .u32 0, .int .u32 0, .int .u8 0, .int .u8 0, .int .u8 0, .int .u8 0, .int .u8 0, .int .u8 0, .int .u8 0, .int .u8 0, .int .u8 0, .int .u8 0, .int .u8 0, .int .u8 0, .int .u8 0, .int .u8 0, .int .u8 0, .int .u8 0, .int .u8 0, .int .u8 0, .int .u8 0, .int .u8 0, .int .u8 0, .int .u8 0, .int .u8 0, .int .u8 0, .int .u8 0, .int .u8 0, .int .u8 0, .int .u8 0, .int .u8 0, .int .u8 0, .int .u8 0, .int .u8 0, .int .u8 0, .int .u8 0, .int .u8 0, .int .u8 0, .int .u8 0, .int .u8 0, .int .u8 0, .int .u8 0, .int .u8 0, .int .u8 0, .int .u8 0, .int .u8 0, .int .u8 0, .int .u8 0, .int .u8 0, .int .u8 0, .int .u8 0, .int .u8 0, .int .u8 0, .int .u8 0, .int .u8 0, .int .u8 0, .int .u8 0, .int .u8 0, .int .u8 0, .int .u8 0, .int .u8 0, .int .u8 0, .int .u8 0, .int .u8 0, .int .u8 0, .int .u8 0, .int .i64 0]) W := fun W => by kernel_rfl
  clear ht h
  generalize ss.length = n at *
  go_enter Tryd.func5, Tryd.ntmps5
  go_wp2_with fail
  refine (HL.out w (Fr.refl _ _)).mono ?_
  rintro e W1 ⟨g1, cap1, rfl, l1⟩
  have s1 := l1.2.2
  clear l1
  go_wp2_with fail
  refine (HN.out _ _ _ (gone_nil W1)).mono ?_
  rintro e W2 ⟨rfl, s2⟩
  have s02 := s1.trans s2
  clear s1 s2
  go_wp2_with fail
  have sa : ∀ o, Same W2 (W2.alloc o) := fun o => (Fr.refl _ W2).alloc o
  refine (HL.out _ (s02.trans (sa _))).mono ?_
  rintro e W3 ⟨g3, cap3, rfl, l3⟩
  have c3 : W3.cell? ⟨W2.heap.size, 0, none⟩ = some (.bool false) := by
    refine l3.2.2.keep ?_
    rw [cell_of_row _ _ _ _ _ _ (heap_alloc_new W2 _)]
    rfl
  have s03 : Same w W3 := (s02.trans (sa _)).trans l3.2.2
  clear l3 s02 sa
  go_wp2_with fail
  refine (HN.out _ _ _ (gone_unmade c3)).mono ?_
  rintro e W4 ⟨rfl, s4⟩
  have s04 := s03.trans s4
  have HAW := awake_calls W4 (HT.out.same s04)
  clear c3 s03 s4
  go_wp2_with fail
  refine HAW.mono ?_
  rintro e W5 ⟨rfl, s5⟩
  go_wp2_with fail
  go_ret
  exact ⟨rfl, s04.trans s5⟩
end Go.Proofs.YtcbnaopcehhdeaaDoor
