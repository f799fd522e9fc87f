/- lives: plain. -/
import Derived.Test.YtjlbkagkmcelgaaNO
namespace Go.Proofs.Ytjlbkagkmcelgaa
open Go.RowKit

def lvL : Nd := ⟨[(⟨#[97]⟩, ⟨#[120]⟩), (⟨#[98]⟩, ⟨#[]⟩)], [], []⟩
def lvB : Nd := ⟨[], [⟨#[109]⟩], [⟨5, [10, 11, 0, 0, 0, 0, 0, 0, 0, 0, 0, 0, 0, 0, 0, 0, 0, 0, 0, 0, 0, 0, 0, 0, 0, 0, 0, 0, 0, 0, 0, 0]⟩, ⟨9, [12, 13, 0, 0, 0, 0, 0, 0, 0, 0, 0, 0, 0, 0, 0, 0, 0, 0, 0, 0, 0, 0, 0, 0, 0, 0, 0, 0, 0, 0, 0, 0]⟩]⟩
theorem lv1 : packE 1024 2 lvL = 0 := by kernel_rfl
theorem lv2 : packS 1024 2 lvL = ⟨#[1, 2, 1, 97, 1, 120, 1, 98, 0]⟩ := by kernel_rfl
theorem lv3 : packE 1024 2 lvB = 0 := by kernel_rfl
theorem lv4 : packS 1024 2 lvB = ⟨#[2, 2, 0, 0, 0, 5, 10, 11, 1, 109, 0, 0, 0, 9, 12, 13]⟩ := by kernel_rfl
theorem lv5 : plainE 1024 2 lvB = 0 := by kernel_rfl
theorem lv6 : plainS 1024 2 lvB = ⟨#[2, 2, 10, 11, 1, 109, 12, 13]⟩ := by kernel_rfl
theorem lv7 : takenE_page 1024 2 ⟨#[2, 2, 0, 0, 0, 5, 10, 11, 1, 109, 0, 0, 0, 9, 12, 13]⟩ = 0 := by kernel_rfl
theorem lv8 : takenN_page 1024 2 ⟨#[2, 2, 0, 0, 0, 5, 10, 11, 1, 109, 0, 0, 0, 9, 12, 13]⟩ = lvB := by kernel_rfl
theorem lv9 : sizeV 1024 2 lvL = 9 := by kernel_rfl
theorem lvL_ok {w : World} {b o cp : Nat} (h0 : w.cell? ⟨b, o, none⟩ = some (.string ⟨#[97]⟩)) (h1 : w.cell? ⟨b, o + 1, none⟩ = some (.string ⟨#[120]⟩)) (h2 : w.cell? ⟨b, o + 2, none⟩ = some (.string ⟨#[98]⟩)) (h3 : w.cell? ⟨b, o + 3, none⟩ = some (.string ⟨#[]⟩)) :
    NdOk w ⟨some ⟨b, o, none⟩, b, o, cp, none, 0, 0, 0, none, 0, 0, 0⟩ 2 lvL := by
  refine ⟨⟨⟨fun _ => ⟨rfl, World.block_lt_of_cell? w _ h0⟩, fun j x hx => ?_⟩, ⟨fun e => absurd rfl e, fun j x hx => by simp [lvL] at hx⟩, ⟨fun e => absurd rfl e, fun j x hx => by simp [lvL] at hx⟩, by simp [lvL], by simp [lvL], by simp [lvL], by simp [lvL]⟩, ⟨by simp [lvL], by simp⟩, by show (9 : Nat) ≤ _; omega, by show (9 : Nat) ≤ _; omega⟩
  rcases j with _ | _ | j
  · obtain rfl : _ = x := by simpa [lvL] using hx
    exact ⟨h0, h1⟩
  · obtain rfl : _ = x := by simpa [lvL] using hx
    exact ⟨h2, h3⟩
  · simp [lvL] at hx
theorem lvB_ok {w : World} {sb so cs kb ko ck : Nat} (hcs : 1 ≤ cs) (hcm : cs ≤ 9223372036854775807) (h0 : w.cell? ⟨sb, so, none⟩ = some (.string ⟨#[109]⟩)) (h1 : w.rangeAt kb ko (kcells ⟨5, [10, 11, 0, 0, 0, 0, 0, 0, 0, 0, 0, 0, 0, 0, 0, 0, 0, 0, 0, 0, 0, 0, 0, 0, 0, 0, 0, 0, 0, 0, 0, 0]⟩))
    (h2 : w.rangeAt kb (ko + 33) (kcells ⟨9, [12, 13, 0, 0, 0, 0, 0, 0, 0, 0, 0, 0, 0, 0, 0, 0, 0, 0, 0, 0, 0, 0, 0, 0, 0, 0, 0, 0, 0, 0, 0, 0]⟩)) :
    NdOk w ⟨none, 0, 0, 0, some ⟨sb, so, none⟩, sb, so, cs, some ⟨kb, ko, none⟩, kb, ko, ck⟩ 2 lvB := by
  refine ⟨⟨⟨fun e => absurd rfl e, fun j x hx => by simp [lvB] at hx⟩, ⟨fun _ => ⟨rfl, World.block_lt_of_cell? w _ h0⟩, fun j x hx => ?_⟩, ⟨fun _ => ⟨rfl, World.block_lt_of_cell? w _ (h1 0 _ rfl)⟩, fun j x hx => ?_⟩, ?_, by simp [lvB], by simp [lvB], by simp [lvB]⟩, ⟨hcs, hcm⟩, by show (16 : Nat) ≤ _; omega, by show (8 : Nat) ≤ _; omega⟩
  · rcases j with _ | j
    · obtain rfl : _ = x := by simpa [lvB] using hx
      exact h0
    · simp [lvB] at hx
  · rcases j with _ | _ | j
    · obtain rfl : _ = x := by simpa [lvB] using hx
      exact h1
    · obtain rfl : _ = x := by simpa [lvB] using hx
      exact h2
    · simp [lvB] at hx
  · intro x hx
    rcases List.mem_cons.1 hx with rfl | hx
    · exact ⟨by decide, rfl⟩
    · rcases List.mem_cons.1 hx with rfl | hx
      · exact ⟨by decide, rfl⟩
      · cases hx
end Go.Proofs.Ytjlbkagkmcelgaa
