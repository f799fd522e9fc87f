/- The law's frame and leaf; awake. -/
import Derived.Test.YtmgkdnejjemfeaaKH
namespace Go.Proofs.Ytmgkdnejjemfeaa
open Go.RowKit

def sPs : List (ByteArray × ByteArray) := [(⟨#[98]⟩, ⟨#[49]⟩), (⟨#[100]⟩, ⟨#[50]⟩), (⟨#[102]⟩, ⟨#[51]⟩)]
def sNd : Nd := ⟨sPs, [], []⟩
def sNr (g : Nat) : Nr := ⟨some ⟨g, 0, none⟩, g, 0, 3, none, 0, 0, 0, none, 0, 0, 0⟩
theorem sNd_at {w : World} {g : Nat} (h : w.heap[g]? = some (.cells #[.string ⟨#[98]⟩, .string ⟨#[49]⟩, .string ⟨#[100]⟩, .string ⟨#[50]⟩, .string ⟨#[102]⟩, .string ⟨#[51]⟩] 48 (0, 0))) : NdAt w (sNr g) sNd := by
  refine ⟨⟨fun _ => ⟨rfl, lt_of_heap h⟩, fun j x hx => ?_⟩, ⟨fun e => absurd rfl e, fun j x hx => by simp [sNd] at hx⟩, ⟨fun e => absurd rfl e, fun j x hx => by simp [sNd] at hx⟩, fun x hx => by simp [sNd] at hx, by decide, by decide, by decide⟩
  match j, hx with
  | 0, hx => cases hx; exact ⟨(cell_of_row _ _ _ _ _ _ h).trans rfl, (cell_of_row _ _ _ _ _ _ h).trans rfl⟩
  | 1, hx => cases hx; exact ⟨(cell_of_row _ _ _ _ _ _ h).trans rfl, (cell_of_row _ _ _ _ _ _ h).trans rfl⟩
  | 2, hx => cases hx; exact ⟨(cell_of_row _ _ _ _ _ _ h).trans rfl, (cell_of_row _ _ _ _ _ _ h).trans rfl⟩
  | j + 3, hx => simp [sNd, sPs] at hx
theorem sNd_chk : chkN 1024 32 sNd = 0 := by decide +kernel
theorem sNd_best : (bestS (cutsN sNd.ps (sNd.ps.length - 1)) (0, 0)).1 = 1 := by decide +kernel
theorem sNd_find : findP ⟨#[99]⟩ sNd.ps 0 = (1, false) := by decide +kernel
theorem sNd_size : ∀ x ∈ sNd.ps, x.1.size ≤ 1048576 ∧ x.2.size ≤ 1048576 := by decide +kernel
theorem lframe_calls (w : World) : Calls Try.prog 11 #[] w fun e w' => e = .returned (frameV 1024 32) ∧ Same w w' := by
  go_enter Try.func11, Try.ntmps11
  go_wp2_with fail
  exact bodyPost_ret (results_row_one (p := 0) (ty := 23) (by kernel_rfl) _ _ w.heap.size 23 _ (0, 0) _ rfl (heap_alloc_new w _) Try.underlying23 rfl (by kernel_rfl)) rfl ⟨rfl, (Fr.refl _ w).alloc _⟩
theorem small_calls (w : World) : Calls Try.prog 12 #[] w fun e w' => ∃ g, e = .returned (ndV (sNr g) sNd) ∧ NdAt w' (sNr g) sNd ∧ Same w w' := by
  go_enter Try.func12, Try.ntmps12
  go_wp2_with fail
  exact bodyPost_ret (results_row_one (p := 0) (ty := 28) (by kernel_rfl) _ _ w.heap.size 28 _ (0, 0) _ rfl ((heap_alloc_old _ _ _ (by simp)).trans (heap_alloc_new w _)) Try.underlying28 rfl (by kernel_rfl)) rfl ⟨w.heap.size + 1, rfl, sNd_at (heap_alloc2_new w _ _), ((Fr.refl _ w).alloc _).alloc _⟩
theorem put_small {g : Nat} (w : World) (h : NdAt w (sNr g) sNd) : Calls Try.prog 10 #[frameV 1024 32, ndV (sNr g) sNd, .agg #[.string ⟨#[99]⟩, .string ⟨#[57]⟩]] w fun e w' => ∃ g c, e = .returned (.tuple #[nodeV (some ⟨g, 0, none⟩) 4 c none 0 0 none 0 0, .bool false, .int .i64 0]) ∧ g < w'.heap.size ∧ w'.cell? ⟨g, 2, none⟩ = some (.string ⟨#[99]⟩) ∧ w'.cell? ⟨g, 3, none⟩ = some (.string ⟨#[57]⟩) ∧ w'.cell? ⟨g, 4, none⟩ = some (.string ⟨#[100]⟩) ∧ Same w w' := by
  have H := put_good (p := 1024) (q := 32) (k := ⟨#[99]⟩) (v := ⟨#[57]⟩) (i := 1) (m := 0) (b := false) w h sNd_chk rfl (by decide) (by decide) (by decide) (Nat.le_refl 3) (fun e => by cases e) (fun a e => by cases e; exact ⟨g, 0, rfl⟩) (by decide) sNd_find rfl (by decide)
  refine H.mono ?_
  rintro e w' ⟨ao, c, rfl, own, s⟩
  have own' := own_base (b2 := 0) own (Nat.zero_le _)
  obtain ⟨g', rfl, hg'⟩ := own_some own' (by decide)
  exact ⟨g', c, rfl, hg', own_cell own' rfl, own_cell own' rfl, own_cell own' rfl, s⟩
theorem split_small {g : Nat} (w : World) (h : NdAt w (sNr g) sNd) : Calls Try.prog 13 #[frameV 1024 32, ndV (sNr g) sNd] w fun e w' => ∃ ao1 c1 ao2 c2, e = .returned (.tuple #[.agg #[.slice ao1 1 c1, .slice none 0 0, .slice none 0 0, .string ⟨#[100]⟩, .slice ao2 2 c2, .slice none 0 0, .slice none 0 0], .int .i64 0]) ∧ Same w w' := by
  have H := split_leaf (r := sNr g) (N := sNd) (p := 1024) (q := 32) (m := 0) (n2 := 2) (sp := ⟨#[100]⟩) w rfl (fun W s => by
      have := check_calls 1024 32 W (h.same s); rw [sNd_chk] at this; exact this) (fun W => asked_calls W (by decide)) (fun W s => by
      have := best_leaf W (h.same s) (by decide) (by decide) rfl sNd_chk sNd_size
      rw [sNd_best] at this; exact this) (fun W s => by
      have := halved_good (m := 0) (x := (⟨#[98]⟩, ⟨#[49]⟩)) (y := (⟨#[100]⟩, ⟨#[50]⟩)) W (h.same s).hp rfl rfl rfl (by decide) (Nat.le_refl 3) (fun e => by cases e) (fun a e => by cases e; exact ⟨g, 0, rfl⟩) (by decide +kernel) (by decide)
      exact this)
  refine H.mono ?_
  rintro e w' ⟨ao1, c1, ao2, c2, rfl, _, _, s⟩
  exact ⟨ao1, c1, ao2, c2, rfl, s⟩
theorem between_apple (w : World) : Calls Try.prog 14 #[.string ⟨#[97, 112, 112, 108, 101]⟩, .string ⟨#[97, 112, 114, 105, 99, 111, 116]⟩] w fun e w' => e = .returned (.tuple #[.string ⟨#[97, 112, 114]⟩, .int .i64 0]) ∧ Same w w' := by
  have := between_more (l := ⟨#[97, 112, 112, 108, 101]⟩) (r := ⟨#[97, 112, 114, 105, 99, 111, 116]⟩) w (by decide +kernel) (by decide)
  exact this
set_option maxRecDepth 100000 in
set_option maxHeartbeats 1000000 in
theorem awake_calls (w : World) : Calls Try.prog 5 #[] w fun e w' => e = .returned (.bool true) ∧ Same w w' := by
  have HF : Hid (∀ W, Calls Try.prog 11 #[] W fun e w' => e = .returned (frameV 1024 32) ∧ Same W w') := lframe_calls
  have HM : Hid (∀ W, Calls Try.prog 12 #[] W fun e w' => ∃ g, e = .returned (ndV (sNr g) sNd) ∧ NdAt w' (sNr g) sNd ∧ Same W w') := small_calls
  go_enter Try.func5, Try.ntmps5
  go_wp2_with fail
  refine (HF.out _).mono ?_
  rintro e W1 ⟨rfl, s1⟩
  go_wp2_with fail
  refine (HM.out _).mono ?_
  rintro e W2 ⟨g, rfl, n2, s2⟩
  go_wp2_with fail
  refine (put_small _ n2).mono ?_
  rintro e W3 ⟨g3, c3, rfl, l3, k1, k2, k3, s3⟩
  go_wp2_with fail
  refine (HF.out _).mono ?_
  rintro e W4 ⟨rfl, s4⟩
  go_wp2_with fail
  refine (HM.out _).mono ?_
  rintro e W5 ⟨g5, rfl, n5, s5⟩
  go_wp2_with fail
  refine (split_small _ n5).mono ?_
  rintro e W6 ⟨ao1, c1, ao2, c2, rfl, s6⟩
  go_wp2_with fail
  refine (between_apple _).mono ?_
  rintro e W7 ⟨rfl, s7⟩
  have t3 := ((s4.trans s5).trans (Fr.alloc s6 _)).trans s7
  have t4 := Same.trans ((Fr.refl (fun _ => False) W3).alloc _) t3
  have c0 := s7.keep (a := ⟨W6.heap.size, 0, none⟩) (v := .slice ao1 1 c1) (by simp)
  have c3' := s7.keep (a := ⟨W6.heap.size, 3, none⟩) (v := .string ⟨#[100]⟩) (by simp)
  have c4 := s7.keep (a := ⟨W6.heap.size, 4, none⟩) (v := .slice ao2 2 c2) (by simp)
  have n0 := t3.keep (a := ⟨W3.heap.size, 0, none⟩) (v := .slice (some ⟨g3, 0, none⟩) 4 c3) (by simp)
  have k1 := t4.keep k1
  have k2 := t4.keep k2
  have k3 := t4.keep k3
  have t5 : Same w W7 := ((s1.trans s2).trans s3).trans t4
  clear s1 s2 s3 s4 s5 s6 s7 t3 t4 n2 n5
  go_wp2_with fail
  go_ret
  exact ⟨rfl, t5⟩
end Go.Proofs.Ytmgkdnejjemfeaa
