/-
  Walks: digests laid.
-/
import Derived.Test.YtjlbkagkmcelgaaWI
import Derived.Test.YtjlbkagkmcelgaaW6
import Derived.Deep.MidRow
namespace Go.Proofs.Ytjlbkagkmcelgaa
open Go.RowKit

/-- A width brought into 0 to 32. -/
def widthN (wd : Int) : Nat := (min (max wd 0) 32).toNat
theorem widthN_le (wd : Int) : widthN wd ≤ 32 := by unfold widthN; omega

theorem counting_calls (w : World) (n : Int) :
    Calls Try.prog 82 #[.int .i64 n] w fun e w' => e = .returned (.int .i64 (widthN n)) ∧ w = w' := by
  have hx : max n 0 = ((max n 0).toNat : Int) := by omega
  obtain ⟨m, hm⟩ : ∃ m : Nat, m = (max n 0).toNat := ⟨_, rfl⟩
  have HC : Hid (Calls Try.prog 85 #[.int .i64 n] w fun e w' => e = .returned (.int .i64 (m : Int)) ∧ w = w') := by
    have := counted_calls w n; rw [hx, ← hm] at this; exact this
  have HM : Hid (widthN n = min m 32) := by show _ = _; unfold widthN; omega
  clear hx hm
  by_cases h : m ≤ 32
  all_goals
    go_enter Try.func82, Try.ntmps82
    go_wp2_with fail
    refine HC.out.mono ?_
    rintro e w1 ⟨rfl, rfl⟩
    go_wp2_with fail
    all_goals
      go_ret
      exact ⟨ret_int (by rw [HM.out]; omega), rfl⟩

theorem Try.alen : Try.prog.arrayLen 35 = 32 := by kernel_rfl
theorem Try.aelem : Try.prog.elem 35 = 5 := by kernel_rfl
theorem Try.aund : Try.prog.underlying 35 = some (.array (Try.prog.arrayLen 35) (Try.prog.elem 35)) := by kernel_rfl
theorem Try.size8 (W : World) : (sizeOf 5).run Try.prog W = .ok 1 W := by kernel_rfl
theorem slice_digest (W : World) (g k : Nat) (hk : k ≤ 32) : (Instr.sliceAt 35 (.pointer (some ⟨g, 0, none⟩)) none (some (.int .i64 (k : Int))) none).run Try.prog W = .ok (.slice (some ⟨g, 0, none⟩) k 32) W := by
  rw [run_sliceAt_array_h W 35 ⟨g, 0, none⟩ Try.aund .i64 k (by omega) (by rw [Try.alen]; omega), Try.aelem, Try.size8, Try.alen]
  simp [slicedAt, Addr.add]

set_option maxRecDepth 100000 in
set_option maxHeartbeats 1000000 in
theorem wdigest_calls {w : World} {b : Nat} {g : Option Nat} {bs : List UInt8} (wd : Int) (D : List UInt8) (hD : D.length = 32) (h : WrAt w b g bs) (hl : bs.length ≤ 900000000000) :
    Calls Try.prog 68 #[.pointer (some ⟨b, 0, none⟩), .int .i64 wd, .agg (bcells D).toArray] w fun e w' => e = .returned (.tuple #[]) ∧ ∃ g', WrAt w' b g' (bs ++ D.take (widthN wd)) ∧ WrStep b g g' w w' := by
  have hk := widthN_le wd
  have HN : Hid (∀ W, Calls Try.prog 82 #[.int .i64 wd] W fun e w' => e = .returned (.int .i64 (widthN wd)) ∧ W = w') := fun W => counting_calls W wd
  obtain ⟨A, hA⟩ : ∃ A, A = (bcells D).toArray := ⟨_, rfl⟩
  rw [← hA]
  have sa : Fr (fun _ => False) w (w.alloc (.cells A 35)) := (Fr.refl _ w).alloc _
  have hcells : ∀ j (hj : j < (D.take (widthN wd)).length), (w.alloc (.cells A 35)).cell? ((⟨w.heap.size, 0, none⟩ : Addr).add j) = some (.int .u8 ((D.take (widthN wd))[j].toNat : Int)) := by
    intro j hj
    rw [Addr.add_lit, cell_of_row _ _ _ _ _ _ (heap_alloc_new w _), hA]
    have hj2 : j < D.length := by rw [List.length_take] at hj; omega
    simp [bcells, hj2]
  have hcv := run_convert_bytes_back (P := Try.prog) (w.alloc (.cells A 35)) 44 9 5 ⟨w.heap.size, 0, none⟩ 32 (D.take (widthN wd)) Try.underlying44 Try.underlying5 Try.underlying9 hcells
  rw [show (D.take (widthN wd)).length = widthN wd from by rw [List.length_take]; omega] at hcv
  clear hcells hA
  obtain ⟨k, hk2⟩ : ∃ k, k = widthN wd := ⟨_, rfl⟩
  rw [← hk2] at hk HN hcv ⊢
  clear hk2
  have hsl := fun W => slice_digest W w.heap.size k hk
  go_enter Try.func68, Try.ntmps68
  go_wp2_with fail
  refine (HN.out _).mono ?_
  rintro e w1 ⟨rfl, rfl⟩
  go_wp2_with fail
  have hw1 := h.same sa
  have hw2 := hw1.same (w' := (w.alloc (.cells A 35)).alloc (.cells #[.string ⟨(D.take k).toArray⟩] 9)) ((Fr.refl _ _).alloc _)
  have hlw := h.lt
  have s2 : Fr (fun _ => False) w ((w.alloc (.cells A 35)).alloc (.cells #[.string ⟨(D.take k).toArray⟩] 9)) := sa.alloc _
  have hfl : (flat [⟨(D.take k).toArray⟩]).length ≤ 32 := by simp [flat]; omega
  refine (wraw_some [⟨(D.take k).toArray⟩] (w.heap.size + 1) 0 1 ?_ (by simp) (by omega) (by intro e; have := hlw.2 _ e.symm; omega) (by simp) hw2 (by omega)).mono ?_
  · intro i s' hi
    match i, hi with
    | 0, hi => simp at hi; subst hi; simp
    | (i + 1), hi => simp at hi
  rintro e w3 ⟨rfl, g3, h3, st3⟩
  go_wp2_with fail
  go_end0
  refine ⟨rfl, g3, ?_, WrStep.same s2 st3⟩
  simpa [flat] using h3

theorem setCells_row {w : World} {b : Nat} {t : TypeId} (vs : List Value) (o : Nat) (old : Array Value) (h : w.heap[b]? = some (.cells old t (0, 0))) : ∃ A, (w.setCells b o vs).heap[b]? = some (.cells A t (0, 0)) ∧ A.size = old.size := by
  induction vs generalizing w o old with
  | nil => exact ⟨old, h, rfl⟩
  | cons v vs ih =>
    obtain ⟨A, h1, h2⟩ := ih (o + 1) _ (heap_setCell_same w b o old t v h)
    exact ⟨A, h1, by rw [h2]; simp⟩
theorem setCells_whole {w : World} {b : Nat} {t : TypeId} (vs : List Value) (old : Array Value) (h : w.heap[b]? = some (.cells old t (0, 0))) (hl : old.size = vs.length) (ht : w.there b 0 vs.length) : (w.setCells b 0 vs).heap[b]? = some (.cells vs.toArray t (0, 0)) := by
  obtain ⟨A, h1, h2⟩ := setCells_row vs 0 old h
  have hr := World.rangeAt_setCells_same w b 0 vs ht
  have : A = vs.toArray := by
    apply Array.ext
    · simpa using h2.trans hl
    · intro j hj1 hj2
      have hj3 : j < vs.length := by simpa using hj2
      have := hr j vs[j] (List.getElem?_eq_getElem hj3)
      rw [Nat.zero_add, cell_of_row _ _ _ _ _ _ h1, Array.getElem?_eq_getElem hj1] at this
      injection this with this
  rw [h1, this]
theorem Fr.setCells {S : Nat → Prop} {a : World} {b : Nat} (hb : b < a.heap.size → S b) (vs : List Value) : ∀ (o : Nat) (w : World), Fr S a w → Fr S a (w.setCells b o vs) := by
  induction vs with
  | nil => intro o w h; exact h
  | cons v vs ih => intro o w h; exact ih (o + 1) _ (h.setCell (p := ⟨b, o, none⟩) hb v)
theorem there_row {w : World} {b n : Nat} {t : TypeId} {old : Array Value} (h : w.heap[b]? = some (.cells old t (0, 0))) (hn : n = old.size) : w.there b 0 n := by
  intro j hj
  rw [Nat.zero_add]
  refine ⟨?_, frozen_of_row w b j old t h⟩
  rw [cell_of_row _ _ _ _ _ _ h, Array.getElem?_eq_getElem (by omega)]; rfl

theorem Try.ainfo : (Try.prog.info? 35).map (·.size) = some 32 := by kernel_rfl

end Go.Proofs.Ytjlbkagkmcelgaa
