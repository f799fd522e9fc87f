/- without, with, first over texts and kids. -/
import Derived.Test.YtmgkdnejjemfeaaK6J
namespace Go.Proofs.Ytmgkdnejjemfeaa
open Go.RowKit


theorem Try.szText (W : World) : (sizeOf 9).run Try.prog W = .ok 1 W := by kernel_rfl
theorem Try.elText : Try.prog.elem 25 = 9 := by kernel_rfl
/-- l[k:], its place a letter. -/
theorem low_texts {ao : Option Addr} {n c k : Nat} (hk : k ≤ n) (hc : n ≤ c) (ha : ao = none → n = 0 ∧ c = 0) : ∃ ad : Option Addr, (∀ W : World, (Instr.sliceAt 25 (.slice ao n c) (some (.int .i64 (k : Int))) none none).run Try.prog W = .ok (.slice ad (n - k) (c - k)) W) ∧
    (ad = none → n - k = 0 ∧ c - k = 0) ∧ (∀ a, ao = some a → k < c → ad = some (a.add (k * 1))) := by
  have hu : Try.prog.underlying 25 = some (.slice (Try.prog.elem 25)) := by rw [Try.elText]; exact Try.underlying25
  have hr : ∀ W : World, (Instr.sliceAt 25 (.slice ao n c) (some (.int .i64 (k : Int))) none none).run Try.prog W = .ok (sliced ao k n c 1) W := fun W => by
    rw [run_sliceAt_slice W _ _ _ _ _ hu, run_slice_l W _ _ _ _ hu .i64 (k : Int) (by omega) (by omega), Try.elText, Try.szText]
    simp [Result.andThen]
  cases ao with
  | none =>
    obtain ⟨rfl, rfl⟩ := ha rfl
    obtain rfl : k = 0 := by omega
    exact ⟨none, fun W => by rw [hr W]; simp [sliced], fun _ => ⟨rfl, rfl⟩, fun a e => by cases e⟩
  | some a =>
    by_cases hkc : c = k
    · exact ⟨some a, fun W => by rw [hr W]; simp [sliced, hkc], fun e => (by cases e), fun b _ hlt => by omega⟩
    · exact ⟨some (a.add (k * 1)), fun W => by rw [hr W]; simp [sliced, hkc], fun e => (by cases e), fun b e _ => by cases e; rfl⟩
/-- l[:i]. -/
theorem high_texts {ao : Option Addr} {n c i : Nat} (hi : i ≤ n) (hc : n ≤ c) (W : World) : (Instr.sliceAt 25 (.slice ao n c) none (some (.int .i64 (i : Int))) none).run Try.prog W = .ok (.slice ao i c) W := by
  have hu : Try.prog.underlying 25 = some (.slice (Try.prog.elem 25)) := by rw [Try.elText]; exact Try.underlying25
  rw [run_sliceAt_slice W _ _ _ _ _ hu, run_slice_h W _ _ _ _ hu .i64 (i : Int) (by omega) (by omega), Try.elText, Try.szText]
  cases ao <;> simp [Result.andThen, sliced, Addr.add]
theorem part_highT {w : World} {ao : Option Addr} {n c i : Nat} {cells : List Value} (h : PartOk w 1 ⟨ao, n, c, cells⟩) (hi : i ≤ n) : PartOk w 1 ⟨ao, i, c, cells.take (i * 1)⟩ := by
  have hl : cells.length = n * 1 := h.len
  refine ⟨by show (cells.take (i * 1)).length = i * 1; rw [List.length_take]; omega, fun e => ?_, fun a ha j u hj => h.at_ a ha j u ?_, fun u hu => h.one u (List.mem_of_mem_take hu)⟩
  · obtain ⟨e1, e2⟩ := h.none e
    simp only at e1 e2
    exact ⟨by show i = 0; omega, e2⟩
  · rw [List.getElem?_take] at hj
    split at hj
    · exact hj
    · cases hj
theorem part_lowT {w : World} {ao ad : Option Addr} {n c k : Nat} {cells : List Value} (h : PartOk w 1 ⟨ao, n, c, cells⟩) (hk : k ≤ n) (hc : n ≤ c) (h1 : ad = none → n - k = 0 ∧ c - k = 0) (h2 : ∀ a, ao = some a → k < c → ad = some (a.add (k * 1))) (h3 : ∀ a, ao = some a → ∃ b o, a = ⟨b, o, none⟩) : PartOk w 1 ⟨ad, n - k, c - k, cells.drop (k * 1)⟩ := by
  have hl : cells.length = n * 1 := h.len
  refine ⟨by show (cells.drop (k * 1)).length = (n - k) * 1; rw [List.length_drop]; omega, h1, fun a ha j u hj => ?_, fun u hu => h.one u (List.mem_of_mem_drop hu)⟩
  rw [List.getElem?_drop] at hj
  have hlt : k * 1 + j < cells.length := (List.getElem?_eq_some_iff.1 hj).1
  cases ao with
  | none => obtain ⟨e1, _⟩ := h.none rfl; simp only at e1; omega
  | some z =>
    have := h2 z rfl (by omega)
    simp only at ha
    rw [this] at ha
    cases ha
    obtain ⟨b, o, rfl⟩ := h3 z rfl
    have hz := h.at_ _ rfl _ _ hj
    rw [WideShapes.add_plain] at hz ⊢
    rw [WideShapes.add_plain]
    rwa [Nat.add_assoc]
theorem Try.szKid (W : World) : (sizeOf 59).run Try.prog W = .ok 33 W := by kernel_rfl
theorem Try.elKid : Try.prog.elem 26 = 59 := by kernel_rfl
/-- l[k:], its place a letter. -/
theorem low_kids {ao : Option Addr} {n c k : Nat} (hk : k ≤ n) (hc : n ≤ c) (ha : ao = none → n = 0 ∧ c = 0) : ∃ ad : Option Addr, (∀ W : World, (Instr.sliceAt 26 (.slice ao n c) (some (.int .i64 (k : Int))) none none).run Try.prog W = .ok (.slice ad (n - k) (c - k)) W) ∧
    (ad = none → n - k = 0 ∧ c - k = 0) ∧ (∀ a, ao = some a → k < c → ad = some (a.add (k * 33))) := by
  have hu : Try.prog.underlying 26 = some (.slice (Try.prog.elem 26)) := by rw [Try.elKid]; exact Try.underlying26
  have hr : ∀ W : World, (Instr.sliceAt 26 (.slice ao n c) (some (.int .i64 (k : Int))) none none).run Try.prog W = .ok (sliced ao k n c 33) W := fun W => by
    rw [run_sliceAt_slice W _ _ _ _ _ hu, run_slice_l W _ _ _ _ hu .i64 (k : Int) (by omega) (by omega), Try.elKid, Try.szKid]
    simp [Result.andThen]
  cases ao with
  | none =>
    obtain ⟨rfl, rfl⟩ := ha rfl
    obtain rfl : k = 0 := by omega
    exact ⟨none, fun W => by rw [hr W]; simp [sliced], fun _ => ⟨rfl, rfl⟩, fun a e => by cases e⟩
  | some a =>
    by_cases hkc : c = k
    · exact ⟨some a, fun W => by rw [hr W]; simp [sliced, hkc], fun e => (by cases e), fun b _ hlt => by omega⟩
    · exact ⟨some (a.add (k * 33)), fun W => by rw [hr W]; simp [sliced, hkc], fun e => (by cases e), fun b e _ => by cases e; rfl⟩
/-- l[:i]. -/
theorem high_kids {ao : Option Addr} {n c i : Nat} (hi : i ≤ n) (hc : n ≤ c) (W : World) : (Instr.sliceAt 26 (.slice ao n c) none (some (.int .i64 (i : Int))) none).run Try.prog W = .ok (.slice ao i c) W := by
  have hu : Try.prog.underlying 26 = some (.slice (Try.prog.elem 26)) := by rw [Try.elKid]; exact Try.underlying26
  rw [run_sliceAt_slice W _ _ _ _ _ hu, run_slice_h W _ _ _ _ hu .i64 (i : Int) (by omega) (by omega), Try.elKid, Try.szKid]
  cases ao <;> simp [Result.andThen, sliced, Addr.add]
theorem part_highK {w : World} {ao : Option Addr} {n c i : Nat} {cells : List Value} (h : PartOk w 33 ⟨ao, n, c, cells⟩) (hi : i ≤ n) : PartOk w 33 ⟨ao, i, c, cells.take (i * 33)⟩ := by
  have hl : cells.length = n * 33 := h.len
  refine ⟨by show (cells.take (i * 33)).length = i * 33; rw [List.length_take]; omega, fun e => ?_, fun a ha j u hj => h.at_ a ha j u ?_, fun u hu => h.one u (List.mem_of_mem_take hu)⟩
  · obtain ⟨e1, e2⟩ := h.none e
    simp only at e1 e2
    exact ⟨by show i = 0; omega, e2⟩
  · rw [List.getElem?_take] at hj
    split at hj
    · exact hj
    · cases hj
theorem part_lowK {w : World} {ao ad : Option Addr} {n c k : Nat} {cells : List Value} (h : PartOk w 33 ⟨ao, n, c, cells⟩) (hk : k ≤ n) (hc : n ≤ c) (h1 : ad = none → n - k = 0 ∧ c - k = 0) (h2 : ∀ a, ao = some a → k < c → ad = some (a.add (k * 33))) (h3 : ∀ a, ao = some a → ∃ b o, a = ⟨b, o, none⟩) : PartOk w 33 ⟨ad, n - k, c - k, cells.drop (k * 33)⟩ := by
  have hl : cells.length = n * 33 := h.len
  refine ⟨by show (cells.drop (k * 33)).length = (n - k) * 33; rw [List.length_drop]; omega, h1, fun a ha j u hj => ?_, fun u hu => h.one u (List.mem_of_mem_drop hu)⟩
  rw [List.getElem?_drop] at hj
  have hlt : k * 33 + j < cells.length := (List.getElem?_eq_some_iff.1 hj).1
  cases ao with
  | none => obtain ⟨e1, _⟩ := h.none rfl; simp only at e1; omega
  | some z =>
    have := h2 z rfl (by omega)
    simp only at ha
    rw [this] at ha
    cases ha
    obtain ⟨b, o, rfl⟩ := h3 z rfl
    have hz := h.at_ _ rfl _ _ hj
    rw [WideShapes.add_plain] at hz ⊢
    rw [WideShapes.add_plain]
    rwa [Nat.add_assoc]
end Go.Proofs.Ytmgkdnejjemfeaa
