/-
  Walks: digests laid.
-/
import Derived.Test.YtaknpcimdpdekaaDoorWI
import Derived.Test.YtaknpcimdpdekaaDoorW6
import Derived.Deep.MidRow
namespace Go.Proofs.YtaknpcimdpdekaaDoor
open Go.RowKit

/-- A width brought into 0 to 32. -/
def widthN (wd : Int) : Nat := (min (max wd 0) 32).toNat
theorem widthN_le (wd : Int) : widthN wd ≤ 32 := by unfold widthN; omega

theorem counting_calls (w : World) (n : Int) :
    Calls Tryd.prog 69 #[.int .i64 n] w fun e w' => e = .returned (.int .i64 (widthN n)) ∧ w = w' := by
  have hx : max n 0 = ((max n 0).toNat : Int) := by omega
  obtain ⟨m, hm⟩ : ∃ m : Nat, m = (max n 0).toNat := ⟨_, rfl⟩
  have HC : Hid (Calls Tryd.prog 63 #[.int .i64 n] w fun e w' => e = .returned (.int .i64 (m : Int)) ∧ w = w') := by
    have := counted_calls w n; rw [hx, ← hm] at this; exact this
  have HM : Hid (widthN n = min m 32) := by show _ = _; unfold widthN; omega
  clear hx hm
  by_cases h : m ≤ 32
  all_goals
    go_enter Tryd.func69, Tryd.ntmps69
    go_wp2_with fail
    refine HC.out.mono ?_
    rintro e w1 ⟨rfl, rfl⟩
    go_wp2_with fail
    all_goals
      go_ret
      exact ⟨ret_int (by rw [HM.out]; omega), rfl⟩

theorem Tryd.alen : Tryd.prog.arrayLen 30 = 32 := by kernel_rfl
theorem Tryd.aelem : Tryd.prog.elem 30 = 5 := by kernel_rfl
theorem Tryd.aund : Tryd.prog.underlying 30 = some (.array (Tryd.prog.arrayLen 30) (Tryd.prog.elem 30)) := by kernel_rfl
theorem Tryd.size8 (W : World) : (sizeOf 5).run Tryd.prog W = .ok 1 W := by kernel_rfl
theorem slice_digest (W : World) (g k : Nat) (hk : k ≤ 32) : (Instr.sliceAt 30 (.pointer (some ⟨g, 0, none⟩)) none (some (.int .i64 (k : Int))) none).run Tryd.prog W = .ok (.slice (some ⟨g, 0, none⟩) k 32) W := by
  rw [run_sliceAt_array_h W 30 ⟨g, 0, none⟩ Tryd.aund .i64 k (by omega) (by rw [Tryd.alen]; omega), Tryd.aelem, Tryd.size8, Tryd.alen]
  simp [slicedAt, Addr.add]

set_option maxRecDepth 100000 in
set_option maxHeartbeats 1000000 in
theorem wdigest_calls {w : World} {b : Nat} {g : Option Nat} {bs : List UInt8} (wd : Int) (D : List UInt8) (hD : D.length = 32) (h : WrAt w b g bs) (hl : bs.length ≤ 900000000000) :
    Calls Tryd.prog 50 #[.pointer (some ⟨b, 0, none⟩), .int .i64 wd, .agg (bcells D).toArray] w fun e w' => e = .returned (.tuple #[]) ∧ ∃ g', WrAt w' b g' (bs ++ D.take (widthN wd)) ∧ WrStep b g g' w w' := by
  have hk := widthN_le wd
  have HN : Hid (∀ W, Calls Tryd.prog 69 #[.int .i64 wd] W fun e w' => e = .returned (.int .i64 (widthN wd)) ∧ W = w') := fun W => counting_calls W wd
  obtain ⟨A, hA⟩ : ∃ A, A = (bcells D).toArray := ⟨_, rfl⟩
  rw [← hA]
  have sa : Fr (fun _ => False) w (w.alloc (.cells A 30)) := (Fr.refl _ w).alloc _
  have hcells : ∀ j (hj : j < (D.take (widthN wd)).length), (w.alloc (.cells A 30)).cell? ((⟨w.heap.size, 0, none⟩ : Addr).add j) = some (.int .u8 ((D.take (widthN wd))[j].toNat : Int)) := by
    intro j hj
    rw [Addr.add_lit, cell_of_row _ _ _ _ _ _ (heap_alloc_new w _), hA]
    have hj2 : j < D.length := by rw [List.length_take] at hj; omega
    simp [bcells, hj2]
  have hcv := run_convert_bytes_back (P := Tryd.prog) (w.alloc (.cells A 30)) 80 9 5 ⟨w.heap.size, 0, none⟩ 32 (D.take (widthN wd)) Tryd.underlying80 Tryd.underlying5 Tryd.underlying9 hcells
  rw [show (D.take (widthN wd)).length = widthN wd from by rw [List.length_take]; omega] at hcv
  clear hcells hA
  obtain ⟨k, hk2⟩ : ∃ k, k = widthN wd := ⟨_, rfl⟩
  rw [← hk2] at hk HN hcv ⊢
  clear hk2
  have hsl := fun W => slice_digest W w.heap.size k hk
  go_enter Tryd.func50, Tryd.ntmps50
  go_wp2_with fail
  refine (HN.out _).mono ?_
  rintro e w1 ⟨rfl, rfl⟩
  go_wp2_with fail
  have hw1 := h.same sa
  have hw2 := hw1.same (w' := (w.alloc (.cells A 30)).alloc (.cells #[.string ⟨(D.take k).toArray⟩] 9)) ((Fr.refl _ _).alloc _)
  have hlw := h.lt
  have s2 : Fr (fun _ => False) w ((w.alloc (.cells A 30)).alloc (.cells #[.string ⟨(D.take k).toArray⟩] 9)) := sa.alloc _
  have hfl : (flat [⟨(D.take k).toArray⟩]).length ≤ 32 := by simp [flat]; omega
  refine (wraw_some [⟨(D.take k).toArray⟩] (w.heap.size + 1) 0 1 ?_ (by simp) (by omega) (by intro e; have := hlw.2 _ e.symm; omega) (by simp) hw2 (by omega)).mono ?_
  · intro i s' hi
    match i, hi with
    | 0, hi => simp at hi; subst hi; simp
    | (i + 1), hi => simp at hi
  rintro e w3 ⟨rfl, g3, h3, st3⟩
  go_wp2_with fail
  go_end0
  refine ⟨rfl, g3, ?_, WrStep.same s2 st3⟩
  simpa [flat] using h3

/-- A text's first 32 bytes, noughts behind them. -/
def dig32 (s : ByteArray) : List UInt8 := s.data.toList.take 32 ++ List.replicate (32 - s.size) 0
theorem dig32_length (s : ByteArray) : (dig32 s).length = 32 := by
  unfold dig32; rw [List.length_append, List.length_take, bytes_length, List.length_replicate]; omega
/-- The digest's cells when k bytes were taken over. -/
def digK (s : ByteArray) (k : Nat) : List UInt8 := s.data.toList.take k ++ List.replicate (32 - k) 0
theorem digK_length (s : ByteArray) (k : Nat) (h : k ≤ s.size) (h2 : k ≤ 32) : (digK s k).length = 32 := by
  unfold digK; rw [List.length_append, List.length_take, bytes_length, List.length_replicate]; omega
theorem digK_set (s : ByteArray) (k : Nat) (h : k < s.size) (h2 : k < 32) : (bcells (digK s k)).set k (.int .u8 s[k].toNat) = bcells (digK s (k + 1)) := by
  have e1 : digK s (k + 1) = s.data.toList.take k ++ (s[k] :: List.replicate (32 - (k + 1)) 0) := by
    unfold digK; rw [List.take_succ_eq_append_getElem (by rw [bytes_length]; exact h), List.append_assoc]; rfl
  have e2 : digK s k = s.data.toList.take k ++ ((0 : UInt8) :: List.replicate (32 - (k + 1)) 0) := by
    unfold digK; rw [show 32 - k = (32 - (k + 1)) + 1 from by omega, List.replicate_succ]
  have hl : (bcells (s.data.toList.take k)).length = k := by rw [bcells_length, List.length_take, bytes_length]; omega
  rw [e1, e2, bcells_append, bcells_append, List.set_append_right _ _ (by omega), hl]
  simp [bcells]

theorem setCells_row {w : World} {b : Nat} {t : TypeId} (vs : List Value) (o : Nat) (old : Array Value) (h : w.heap[b]? = some (.cells old t (0, 0))) : ∃ A, (w.setCells b o vs).heap[b]? = some (.cells A t (0, 0)) ∧ A.size = old.size := by
  induction vs generalizing w o old with
  | nil => exact ⟨old, h, rfl⟩
  | cons v vs ih =>
    obtain ⟨A, h1, h2⟩ := ih (o + 1) _ (heap_setCell_same w b o old t v h)
    exact ⟨A, h1, by rw [h2]; simp⟩
theorem setCells_whole {w : World} {b : Nat} {t : TypeId} (vs : List Value) (old : Array Value) (h : w.heap[b]? = some (.cells old t (0, 0))) (hl : old.size = vs.length) (ht : w.there b 0 vs.length) : (w.setCells b 0 vs).heap[b]? = some (.cells vs.toArray t (0, 0)) := by
  obtain ⟨A, h1, h2⟩ := setCells_row vs 0 old h
  have hr := World.rangeAt_setCells_same w b 0 vs ht
  have : A = vs.toArray := by
    apply Array.ext
    · simpa using h2.trans hl
    · intro j hj1 hj2
      have hj3 : j < vs.length := by simpa using hj2
      have := hr j vs[j] (List.getElem?_eq_getElem hj3)
      rw [Nat.zero_add, cell_of_row _ _ _ _ _ _ h1, Array.getElem?_eq_getElem hj1] at this
      injection this with this
  rw [h1, this]
theorem Fr.setCells {S : Nat → Prop} {a : World} {b : Nat} (hb : b < a.heap.size → S b) (vs : List Value) : ∀ (o : Nat) (w : World), Fr S a w → Fr S a (w.setCells b o vs) := by
  induction vs with
  | nil => intro o w h; exact h
  | cons v vs ih => intro o w h; exact ih (o + 1) _ (h.setCell (p := ⟨b, o, none⟩) hb v)
theorem there_row {w : World} {b n : Nat} {t : TypeId} {old : Array Value} (h : w.heap[b]? = some (.cells old t (0, 0))) (hn : n = old.size) : w.there b 0 n := by
  intro j hj
  rw [Nat.zero_add]
  refine ⟨?_, frozen_of_row w b j old t h⟩
  rw [cell_of_row _ _ _ _ _ _ h, Array.getElem?_eq_getElem (by omega)]; rfl

theorem Tryd.ainfo : (Tryd.prog.info? 30).map (·.size) = some 32 := by kernel_rfl

end Go.Proofs.YtaknpcimdpdekaaDoor
