/- Unpack, Read. -/
import Derived.Test.YtjlbkagkmcelgaaNM
namespace Go.Proofs.Ytjlbkagkmcelgaa
open Go.RowKit

def noNd : Nd := ⟨[], [], []⟩
theorem noNd_ok (w : World) (q : Int) : NdOk w ⟨none, 0, 0, 0, none, 0, 0, 0, none, 0, 0, 0⟩ q noNd := by
  have b6 : ∀ t, (formN t q noNd).length ≤ 50000000000 := fun t => by
    unfold formN; rw [if_pos (by rfl), List.length_cons, List.length_append]
    have := freeB_length ([] : List (ByteArray × ByteArray)).length
    show (freeB ([] : List (ByteArray × ByteArray)).length).length + (pairsB []).length + 1 ≤ _
    have e : (pairsB []).length = 0 := rfl
    omega
  exact ⟨⟨⟨fun e => absurd rfl e, fun j x hx => by simp [noNd] at hx⟩, ⟨fun e => absurd rfl e, fun j x hx => by simp [noNd] at hx⟩, ⟨fun e => absurd rfl e, fun j x hx => by simp [noNd] at hx⟩, by simp [noNd], by simp [noNd], by simp [noNd], by simp [noNd]⟩, ⟨by simp [noNd], by simp⟩, b6 _, b6 _⟩
/-- What is answered of bytes: the error, the node. -/
def takenE_page (p q : Int) (s : ByteArray) : Int := if frameP p q = true then (if packE p q (rdNode_page p q s) = 0 ∧ packS p q (rdNode_page p q s) = s then 0 else 73) else 2
def takenN_page (p q : Int) (s : ByteArray) : Nd := if takenE_page p q s = 0 then rdNode_page p q s else noNd
theorem taken_page {p q : Int} {s : ByteArray} (w : World) (hsz : s.size ≤ 1000000000) :
    Calls Try.prog 34 #[frameV p q, .string s, pageV, .func (.func 21) #[] #[]] w fun e w' => ∃ r, e = .returned (.tuple #[ndV r (takenN_page p q s), .int .i64 (takenE_page p q s)]) ∧ NdOk w' r q (takenN_page p q s) ∧ Same w w' := by
  cases hf : frameP p q with
  | false =>
    have e1 : takenE_page p q s = 2 := by unfold takenE_page; rw [hf]; rfl
    have e2 : takenN_page p q s = noNd := by unfold takenN_page; rw [e1]; rfl
    rw [e1, e2]
    exact (taken_no w hf).mono fun e w' ⟨he, hs⟩ => ⟨⟨none, 0, 0, 0, none, 0, 0, 0, none, 0, 0, 0⟩, he, noNd_ok w' q, hs⟩
  | true =>
    have hpg := (frameP_cases hf).1
    by_cases hc : packE p q (rdNode_page p q s) = 0 ∧ packS p q (rdNode_page p q s) = s
    · have e1 : takenE_page p q s = 0 := by unfold takenE_page; rw [hf, if_pos rfl, if_pos hc]
      have e2 : takenN_page p q s = rdNode_page p q s := by unfold takenN_page; rw [e1]; rfl
      rw [e1, e2]
      exact taken_yes_page w hf (fun W => node_page hpg W s hsz) (fun W r h => pack_calls W h) hc.1 hc.2
    · have e1 : takenE_page p q s = 73 := by unfold takenE_page; rw [hf, if_pos rfl, if_neg hc]
      have e2 : takenN_page p q s = noNd := by unfold takenN_page; rw [e1]; rfl
      rw [e1, e2]
      exact (taken_bad_page w hf (fun W => node_page hpg W s hsz) (fun W r h => pack_calls W h) (by
        by_cases h0 : packE p q (rdNode_page p q s) = 0
        · exact Or.inr (fun h => hc ⟨h0, h⟩)
        · exact Or.inl h0)).mono fun e w' ⟨he, hs⟩ => ⟨⟨none, 0, 0, 0, none, 0, 0, 0, none, 0, 0, 0⟩, he, noNd_ok w' q, hs⟩
end Go.Proofs.Ytjlbkagkmcelgaa
