/-
  Walks: digests laid.
-/
import Derived.Test.YtpcdpdagcigigaaWI
import Derived.Test.YtpcdpdagcigigaaW6
import Derived.Deep.MidRow
namespace Go.Proofs.Ytpcdpdagcigigaa
open Go.RowKit

/-- A width brought into 0 to 32. -/
def widthN (wd : Int) : Nat := (min (max wd 0) 32).toNat
theorem widthN_le (wd : Int) : widthN wd ≤ 32 := by unfold widthN; omega

theorem counting_calls (w : World) (n : Int) :
    Calls Try.prog 61 #[.int .i64 n] w fun e w' => e = .returned (.int .i64 (widthN n)) ∧ w = w' := by
  have hx : max n 0 = ((max n 0).toNat : Int) := by omega
  obtain ⟨m, hm⟩ : ∃ m : Nat, m = (max n 0).toNat := ⟨_, rfl⟩
  have HC : Hid (Calls Try.prog 48 #[.int .i64 n] w fun e w' => e = .returned (.int .i64 (m : Int)) ∧ w = w') := by
    have := counted_calls w n; rw [hx, ← hm] at this; exact this
  have HM : Hid (widthN n = min m 32) := by show _ = _; unfold widthN; omega
  clear hx hm
  by_cases h : m ≤ 32
  all_goals
    go_enter Try.func61, Try.ntmps61
    go_wp2_with fail
    refine HC.out.mono ?_
    rintro e w1 ⟨rfl, rfl⟩
    go_wp2_with fail
    all_goals
      go_ret
      exact ⟨ret_int (by rw [HM.out]; omega), rfl⟩

theorem Try.alen : Try.prog.arrayLen 45 = 32 := by kernel_rfl
theorem Try.aelem : Try.prog.elem 45 = 5 := by kernel_rfl
theorem Try.aund : Try.prog.underlying 45 = some (.array (Try.prog.arrayLen 45) (Try.prog.elem 45)) := by kernel_rfl
theorem Try.size8 (W : World) : (sizeOf 5).run Try.prog W = .ok 1 W := by kernel_rfl
theorem slice_digest (W : World) (g k : Nat) (hk : k ≤ 32) : (Instr.sliceAt 45 (.pointer (some ⟨g, 0, none⟩)) none (some (.int .i64 (k : Int))) none).run Try.prog W = .ok (.slice (some ⟨g, 0, none⟩) k 32) W := by
  rw [run_sliceAt_array_h W 45 ⟨g, 0, none⟩ Try.aund .i64 k (by omega) (by rw [Try.alen]; omega), Try.aelem, Try.size8, Try.alen]
  simp [slicedAt, Addr.add]

set_option maxRecDepth 100000 in
set_option maxHeartbeats 1000000 in
theorem wdigest_calls {w : World} {b : Nat} {g : Option Nat} {bs : List UInt8} (wd : Int) (D : List UInt8) (hD : D.length = 32) (h : WrAt w b g bs) (hl : bs.length ≤ 900000000000) :
    Calls Try.prog 41 #[.pointer (some ⟨b, 0, none⟩), .int .i64 wd, .agg (bcells D).toArray] w fun e w' => e = .returned (.tuple #[]) ∧ ∃ g', WrAt w' b g' (bs ++ D.take (widthN wd)) ∧ WrStep b g g' w w' := by
  have hk := widthN_le wd
  have HN : Hid (∀ W, Calls Try.prog 61 #[.int .i64 wd] W fun e w' => e = .returned (.int .i64 (widthN wd)) ∧ W = w') := fun W => counting_calls W wd
  obtain ⟨A, hA⟩ : ∃ A, A = (bcells D).toArray := ⟨_, rfl⟩
  rw [← hA]
  have sa : Fr (fun _ => False) w (w.alloc (.cells A 45)) := (Fr.refl _ w).alloc _
  have hcells : ∀ j (hj : j < (D.take (widthN wd)).length), (w.alloc (.cells A 45)).cell? ((⟨w.heap.size, 0, none⟩ : Addr).add j) = some (.int .u8 ((D.take (widthN wd))[j].toNat : Int)) := by
    intro j hj
    rw [Addr.add_lit, cell_of_row _ _ _ _ _ _ (heap_alloc_new w _), hA]
    have hj2 : j < D.length := by rw [List.length_take] at hj; omega
    simp [bcells, hj2]
  have hcv := run_convert_bytes_back (P := Try.prog) (w.alloc (.cells A 45)) 81 9 5 ⟨w.heap.size, 0, none⟩ 32 (D.take (widthN wd)) Try.underlying81 Try.underlying5 Try.underlying9 hcells
  rw [show (D.take (widthN wd)).length = widthN wd from by rw [List.length_take]; omega] at hcv
  clear hcells hA
  obtain ⟨k, hk2⟩ : ∃ k, k = widthN wd := ⟨_, rfl⟩
  rw [← hk2] at hk HN hcv ⊢
  clear hk2
  have hsl := fun W => slice_digest W w.heap.size k hk
  go_enter Try.func41, Try.ntmps41
  go_wp2_with fail
  refine (HN.out _).mono ?_
  rintro e w1 ⟨rfl, rfl⟩
  go_wp2_with fail
  have hw1 := h.same sa
  have hw2 := hw1.same (w' := (w.alloc (.cells A 45)).alloc (.cells #[.string ⟨(D.take k).toArray⟩] 9)) ((Fr.refl _ _).alloc _)
  have hlw := h.lt
  have s2 : Fr (fun _ => False) w ((w.alloc (.cells A 45)).alloc (.cells #[.string ⟨(D.take k).toArray⟩] 9)) := sa.alloc _
  have hfl : (flat [⟨(D.take k).toArray⟩]).length ≤ 32 := by simp [flat]; omega
  refine (wraw_some [⟨(D.take k).toArray⟩] (w.heap.size + 1) 0 1 ?_ (by simp) (by omega) (by intro e; have := hlw.2 _ e.symm; omega) (by simp) hw2 (by omega)).mono ?_
  · intro i s' hi
    match i, hi with
    | 0, hi => simp at hi; subst hi; simp
    | (i + 1), hi => simp at hi
  rintro e w3 ⟨rfl, g3, h3, st3⟩
  go_wp2_with fail
  go_end0
  refine ⟨rfl, g3, ?_, WrStep.same s2 st3⟩
  simpa [flat] using h3

/-- A text's first 32 bytes, noughts behind them. -/
def dig32 (s : ByteArray) : List UInt8 := s.data.toList.take 32 ++ List.replicate (32 - s.size) 0
theorem dig32_length (s : ByteArray) : (dig32 s).length = 32 := by
  unfold dig32; rw [List.length_append, List.length_take, bytes_length, List.length_replicate]; omega
/-- The digest's cells when k bytes were taken over. -/
def digK (s : ByteArray) (k : Nat) : List UInt8 := s.data.toList.take k ++ List.replicate (32 - k) 0
theorem digK_length (s : ByteArray) (k : Nat) (h : k ≤ s.size) (h2 : k ≤ 32) : (digK s k).length = 32 := by
  unfold digK; rw [List.length_append, List.length_take, bytes_length, List.length_replicate]; omega
theorem digK_set (s : ByteArray) (k : Nat) (h : k < s.size) (h2 : k < 32) : (bcells (digK s k)).set k (.int .u8 s[k].toNat) = bcells (digK s (k + 1)) := by
  have e1 : digK s (k + 1) = s.data.toList.take k ++ (s[k] :: List.replicate (32 - (k + 1)) 0) := by
    unfold digK; rw [List.take_succ_eq_append_getElem (by rw [bytes_length]; exact h), List.append_assoc]; rfl
  have e2 : digK s k = s.data.toList.take k ++ ((0 : UInt8) :: List.replicate (32 - (k + 1)) 0) := by
    unfold digK; rw [show 32 - k = (32 - (k + 1)) + 1 from by omega, List.replicate_succ]
  have hl : (bcells (s.data.toList.take k)).length = k := by rw [bcells_length, List.length_take, bytes_length]; omega
  rw [e1, e2, bcells_append, bcells_append, List.set_append_right _ _ (by omega), hl]
  simp [bcells]

theorem setCells_row {w : World} {b : Nat} {t : TypeId} (vs : List Value) (o : Nat) (old : Array Value) (h : w.heap[b]? = some (.cells old t (0, 0))) : ∃ A, (w.setCells b o vs).heap[b]? = some (.cells A t (0, 0)) ∧ A.size = old.size := by
  induction vs generalizing w o old with
  | nil => exact ⟨old, h, rfl⟩
  | cons v vs ih =>
    obtain ⟨A, h1, h2⟩ := ih (o + 1) _ (heap_setCell_same w b o old t v h)
    exact ⟨A, h1, by rw [h2]; simp⟩
theorem setCells_whole {w : World} {b : Nat} {t : TypeId} (vs : List Value) (old : Array Value) (h : w.heap[b]? = some (.cells old t (0, 0))) (hl : old.size = vs.length) (ht : w.there b 0 vs.length) : (w.setCells b 0 vs).heap[b]? = some (.cells vs.toArray t (0, 0)) := by
  obtain ⟨A, h1, h2⟩ := setCells_row vs 0 old h
  have hr := World.rangeAt_setCells_same w b 0 vs ht
  have : A = vs.toArray := by
    apply Array.ext
    · simpa using h2.trans hl
    · intro j hj1 hj2
      have hj3 : j < vs.length := by simpa using hj2
      have := hr j vs[j] (List.getElem?_eq_getElem hj3)
      rw [Nat.zero_add, cell_of_row _ _ _ _ _ _ h1, Array.getElem?_eq_getElem hj1] at this
      injection this with this
  rw [h1, this]
theorem Fr.setCells {S : Nat → Prop} {a : World} {b : Nat} (hb : b < a.heap.size → S b) (vs : List Value) : ∀ (o : Nat) (w : World), Fr S a w → Fr S a (w.setCells b o vs) := by
  induction vs with
  | nil => intro o w h; exact h
  | cons v vs ih => intro o w h; exact ih (o + 1) _ (h.setCell (p := ⟨b, o, none⟩) hb v)
theorem there_row {w : World} {b n : Nat} {t : TypeId} {old : Array Value} (h : w.heap[b]? = some (.cells old t (0, 0))) (hn : n = old.size) : w.there b 0 n := by
  intro j hj
  rw [Nat.zero_add]
  refine ⟨?_, frozen_of_row w b j old t h⟩
  rw [cell_of_row _ _ _ _ _ _ h, Array.getElem?_eq_getElem (by omega)]; rfl

theorem Try.ainfo : (Try.prog.info? 45).map (·.size) = some 32 := by kernel_rfl

set_option maxRecDepth 100000 in
set_option maxHeartbeats 1000000 in
theorem ldigest_calls (w : World) (s : ByteArray) (hs : s.size ≤ 281474976710656) :
    Calls Try.prog 42 #[.string s] w fun e w' => e = .returned (.agg (bcells (dig32 s)).toArray) ∧ Fr (fun _ => False) w w' := by
  obtain ⟨A, hA⟩ : ∃ A, A = (bcells (dig32 s)).toArray := ⟨_, rfl⟩
  have hAs : A.size = 32 := by rw [hA]; simp [bcells, dig32_length]
  have hone : A.all (·.oneCell') = true := by
    rw [hA]
    exact all_oneCell_toArray (by intro v hv; simp only [bcells, List.mem_map] at hv; obtain ⟨c, _, rfl⟩ := hv; rfl)
  have hsz : (Try.prog.info? 45).map (·.size) = some A.size := by rw [Try.ainfo, hAs]
  rw [← hA]
  have HA : Hid (A = (bcells (dig32 s)).toArray) := hA
  have HAs : Hid (A.size = 32) := hAs
  clear hA hAs
  go_enter Try.func42, Try.ntmps42
  go_wp2_with fail
  go_loopw [4] (fun iv wr => ∃ (k : Nat) (Z : Array Value), iv = .int .i64 k ∧ k ≤ s.size ∧ k ≤ 32 ∧ wr.heap[w.heap.size + 1]? = some (.cells (bcells (digK s k)).toArray 45 (0, 0)) ∧ wr.heap[w.heap.size]? = some (.cells Z 45 (0, 0)) ∧ Z.size = 32 ∧ Fr (fun _ => False) w wr)
    (fun iv _ => 32 - (intOf iv).toNat)
  case atStart => exact ⟨0, _, rfl, by omega, by omega, heap_alloc2_new w _ _, heap_alloc2_old w _ _, rfl, ((Fr.refl _ w).alloc _).alloc _⟩
  case round =>
    obtain ⟨k, Z, rfl, hk, hk32, hrow, hres, hZ, hst⟩ := hrel
    have hdl := digK_length s k hk hk32
    by_cases hgo : k < s.size ∧ k < 32
    · obtain ⟨hlt, hlt2⟩ := hgo
      have hcx : ∃ v, wr.cell? ⟨w.heap.size + 1, k, none⟩ = some v := by
        rw [cell_of_row _ _ _ _ _ _ hrow]
        exact ⟨_, Array.getElem?_eq_getElem (by simp [bcells]; omega)⟩
      obtain ⟨vold, hcx⟩ := hcx
      have hfx := frozen_of_row wr (w.heap.size + 1) k _ _ hrow
      have R1 : (wr.setCell ⟨w.heap.size + 1, k, none⟩ (.int .u8 s[k].toNat)).heap[w.heap.size + 1]? = some (.cells (bcells (digK s (k + 1))).toArray 45 (0, 0)) := by
        rw [heap_setCell_same wr _ k _ _ _ hrow, ← digK_set s k hlt hlt2]; simp
      have R2 : (wr.setCell ⟨w.heap.size + 1, k, none⟩ (.int .u8 s[k].toNat)).heap[w.heap.size]? = some (.cells Z 45 (0, 0)) := by
        rw [heap_setCell_other _ _ _ _ (by simp)]; exact hres
      have R3 : Fr (fun _ => False) w (wr.setCell ⟨w.heap.size + 1, k, none⟩ (.int .u8 s[k].toNat)) := hst.setCell (p := ⟨w.heap.size + 1, k, none⟩) (fun h => by simp only at h; omega) _
      clear hrow hres hst
      go_wp2_with fail
      go_roundw
      case rel => exact ⟨k + 1, Z, by go_num, by omega, by omega, R1, R2, hZ, R3⟩
      case measure => simp [intOf]; omega
    · have hfin : digK s k = dig32 s := by
        unfold digK dig32
        by_cases h1 : k = 32
        · subst h1; rw [show 32 - s.size = 0 from by omega]
        · have h2 : k = s.size := by omega
          subst h2
          rw [List.take_of_length_le (by rw [bytes_length]; omega), List.take_of_length_le (by rw [bytes_length]; omega)]
      rw [hfin, ← HA.out] at hrow
      have hth : wr.there w.heap.size 0 A.size := there_row hres (by rw [HAs.out, hZ])
      have R1 : (wr.setCells w.heap.size 0 A.toList).heap[w.heap.size]? = some (.cells A 45 (0, 0)) := by
        have := setCells_whole A.toList Z hres (by rw [Array.length_toList, HAs.out, hZ]) (by rw [Array.length_toList]; exact hth)
        rwa [Array.toArray_toList] at this
      have R2 : Fr (fun _ => False) w (wr.setCells w.heap.size 0 A.toList) := Fr.setCells (fun h => by omega) _ 0 wr hst
      have HR : Hid (∀ tmps : Array Value, tmps.getD 2 undef = .pointer (some ⟨w.heap.size, 0, none⟩) → (results Try.f42 tmps).run Try.prog (wr.setCells w.heap.size 0 A.toList) = .ok (.agg A) (wr.setCells w.heap.size 0 A.toList)) := fun tmps hp => results_cell_row (p := 2) (ty := 45) (by kernel_rfl) tmps _ w.heap.size 45 _ (0, 0) _ hp R1 Try.underlying45 rfl hsz
      clear R1 hfin hdl hres hst
      by_cases h1 : k < s.size
      all_goals
        go_wp2_with (first | (refine wpList_load_row (by rfl) 45 _ (by rfl) (w.heap.size + 1) (by rfl) 45 A (0, 0) _ hrow Try.underlying45 rfl hsz ?_) | (refine wpList_store_mid (by rfl) 45 _ _ (by rfl) w.heap.size 0 A (by rfl) (by rfl) hth hsz hone ?_))
        exact bodyPost_ret (HR.out _ rfl) rfl ⟨rfl, R2⟩
end Go.Proofs.Ytpcdpdagcigigaa
