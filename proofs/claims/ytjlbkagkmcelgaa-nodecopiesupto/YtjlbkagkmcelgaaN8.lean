/- Kids laid: laySum, layKid. -/
import Derived.Test.YtjlbkagkmcelgaaN7
namespace Go.Proofs.Ytjlbkagkmcelgaa
open Go.RowKit

theorem Try.infoKid2 {k : Kid} (h : KidOk k) : (Try.prog.info? 37).map (·.size) = some (kcells k).toArray.size := by rw [Try.infoKid, List.size_toArray, kcells_length h.d]
/-- A kid's bytes: its digest cut to the width; ahead of it the page, if the form has pages. -/
def sumB (q : Int) (k : Kid) : List UInt8 := k.d.take (widthN q)
def kidB (pages : Bool) (q : Int) (k : Kid) : List UInt8 := (if pages = true then fixB 4 k.page else []) ++ sumB q k
theorem sumB_len (q : Int) (k : Kid) (h : KidOk k) : (sumB q k).length ≤ 32 := by unfold sumB; rw [List.length_take, h.d]; omega
theorem kidB_len (pages : Bool) (q : Int) (k : Kid) (h : KidOk k) : (kidB pages q k).length ≤ 36 := by
  unfold kidB
  have := sumB_len q k h
  rw [List.length_append]
  split
  · rw [fixB_length]; omega
  · simp; omega

set_option maxRecDepth 100000 in
set_option maxHeartbeats 400000 in
theorem laySum_calls {w : World} {b : Nat} {g : Option Nat} {bs : List UInt8} (q : Int) (k : Kid) (hk : KidOk k) (h : WrAt w b g bs) (hl : bs.length ≤ 900000000000) :
    Calls Try.prog 50 #[.int .i64 q, .pointer (some ⟨b, 0, none⟩), kidV k] w fun e w' => e = .returned (.tuple #[]) ∧ ∃ g', WrAt w' b g' (bs ++ sumB q k) ∧ WrStep b g g' w w' := by
  obtain ⟨V, hV⟩ : ∃ V, V = w.alloc (.cells (kcells k).toArray 37) := ⟨_, rfl⟩
  have hv : WrAt V b g bs := by rw [hV]; exact h.same1 ((Fr.refl _ w).alloc _)
  have s0 : WrStep b g g w V := by rw [hV]; exact WrStep.alloc b g w _
  have hS : V.rangeAt w.heap.size 1 (bcells k.d) := by rw [hV]; exact kid_sum (kid_box w k)
  have hDl : (Try.prog.info? 35).map (·.size) = some (bcells k.d).length := by rw [Try.infoDig, bcells_length, hk.d]
  have HD : Hid (Calls Try.prog 68 #[.pointer (some ⟨b, 0, none⟩), .int .i64 q, .agg (bcells k.d).toArray] V fun e w' => e = .returned (.tuple #[]) ∧ ∃ g', WrAt w' b g' (bs ++ sumB q k) ∧ WrStep b g g' V w') := wdigest_calls q k.d hk.d hv hl
  rw [hV] at hS
  generalize bcells k.d = BD at *
  unfold kidV
  generalize (kcells k).toArray = KA at *
  clear h hv hl hk
  go_enter Try.func50, Try.ntmps50
  go_wp2_with (refine wpList_load_mid (by rfl) 35 _ (by rfl) w.heap.size 1 (by rfl) BD _ hS Try.underlying35 rfl hDl ?_)
  rw [← hV]
  clear hV hS
  refine HD.out.mono ?_
  rintro e w1 ⟨rfl, g1, h1, st1⟩
  go_wp2_with fail
  go_end0
  exact ⟨rfl, g1, h1, s0.trans st1⟩

set_option maxRecDepth 100000 in
set_option maxHeartbeats 400000 in
theorem layKid_calls {w : World} {b : Nat} {g : Option Nat} {bs : List UInt8} (q : Int) (k : Kid) (hk : KidOk k) (h : WrAt w b g bs) (hl : bs.length ≤ 800000000000) :
    Calls Try.prog 39 #[.int .i64 q, .pointer (some ⟨b, 0, none⟩), kidV k] w fun e w' => e = .returned (.tuple #[]) ∧ ∃ g', WrAt w' b g' (bs ++ (fixB 4 k.page ++ sumB q k)) ∧ WrStep b g g' w w' := by
  obtain ⟨lb, lg⟩ := h.ltb
  obtain ⟨V, hV⟩ : ∃ V, V = w.alloc (.cells (kcells k).toArray 37) := ⟨_, rfl⟩
  have hv : WrAt V b g bs := by rw [hV]; exact h.same1 ((Fr.refl _ w).alloc _)
  have s0 : WrStep b g g w V := by rw [hV]; exact WrStep.alloc b g w _
  have r0 : V.heap[w.heap.size]? = some (.cells (kcells k).toArray 37 (0, 0)) := by rw [hV]; exact heap_alloc_new w _
  have c0 : V.cell? ⟨w.heap.size, 0, none⟩ = some (.int .u32 k.page) := by rw [hV]; exact kid_box w k 0 _ rfl
  have hne : w.heap.size ≠ b := by omega
  have hng : some w.heap.size ≠ g := by intro e; have := lg _ e.symm; omega
  have hz := Try.infoKid2 hk
  have HP : Hid (Calls Try.prog 62 #[.pointer (some ⟨b, 0, none⟩), .int .u32 k.page] V fun e w' => e = .returned (.tuple #[]) ∧ ∃ g', WrAt w' b g' (bs ++ fixB 4 k.page) ∧ WrStep b g g' V w') := put_u32 (k.page : Int) hv (by omega)
  have HS : Hid (∀ (W : World) (g1 : Option Nat), WrAt W b g1 (bs ++ fixB 4 k.page) → Calls Try.prog 50 #[.int .i64 q, .pointer (some ⟨b, 0, none⟩), kidV k] W fun e w' => e = .returned (.tuple #[]) ∧ ∃ g', WrAt w' b g' (bs ++ fixB 4 k.page ++ sumB q k) ∧ WrStep b g1 g' W w') := fun W g1 h1 => laySum_calls q k hk h1 (by rw [List.length_append, fixB_length]; omega)
  unfold kidV at HS ⊢
  rw [hV] at c0
  generalize (kcells k).toArray = KA at *
  clear h hv hl hk lb lg
  go_enter Try.func39, Try.ntmps39
  go_wp2_with fail
  rw [← hV]
  clear hV c0
  refine HP.out.mono ?_
  rintro e w1 ⟨rfl, g1, h1, st1⟩
  have r1 := st1.keep r0 hne hng
  go_wp2_with (refine wpList_load_row (by rfl) 37 _ (by rfl) w.heap.size (by rfl) 37 KA (0, 0) _ r1 Try.underlying37 rfl hz ?_)
  refine (HS.out _ _ h1).mono ?_
  rintro e w2 ⟨rfl, g2, h2, st2⟩
  go_wp2_with fail
  go_end0
  exact ⟨rfl, g2, by rw [← List.append_assoc]; exact h2, (s0.trans st1).trans st2⟩
end Go.Proofs.Ytjlbkagkmcelgaa
