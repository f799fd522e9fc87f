/-
  Walks: SumsOneText.
-/
import Derived.Test.YtpkpklbambmbeaaDoorSQ
import Derived.Test.YtpkpklbambmbeaaDoorSM
namespace Go.Proofs.YtpkpklbambmbeaaDoor
open Go.RowKit

abbrev taggedV (a : ByteArray) (pa : Option Addr) (n pc : Nat) : Value := .agg #[.string a, .slice pa n pc]
def tagB (a : ByteArray) : Bool := decide (1 ≤ a.size ∧ a.size ≤ 64)

theorem Lent.sat {w w' : World} {ss : List ByteArray} {g cap : Nat} (h : Lent w w' ss g cap) : SAt w' (some ⟨g, 0, none⟩) g 0 ss := by
  refine ⟨fun e => ⟨rfl, (h.1.lt g rfl).2⟩, fun j s hj => ?_⟩
  have := h.1.cells (g := g) rfl j (.string s) (by
    simp only [scells, List.getElem?_map, List.getElem?_append_left (List.getElem?_eq_some_iff.1 hj).1, hj]; rfl)
  rw [Addr.add_mid] at this
  exact this

theorem beqL_ne {s t : ByteArray} (h : ¬ s = t) : (s.toList == t.toList) = false := by
  rw [ByteArray.toList_eq, ByteArray.toList_eq, beq_eq_false_iff_ne]
  exact fun e => h (by cases s; cases t; simpa using e)
theorem beqL_eq {s t : ByteArray} (h : s = t) : (s.toList == t.toList) = true := by
  rw [h]
  simp

def textS (a : ByteArray) (ss : List ByteArray) : ByteArray := if tagB a then ⟨(textP a ss).toArray⟩ else ⟨#[]⟩
def textE (a : ByteArray) : Int := if tagB a then 0 else 20
theorem text_any (W : World) (a : ByteArray) (ss : List ByteArray) (g cap : Nat) (h : SAt W (some ⟨g, 0, none⟩) g 0 ss) (hl : (textP a ss).length ≤ 70368744177664) (hsl : ss.length ≤ 70368744177664) :
    Calls Tryd.prog 20 #[.string a, .slice (some ⟨g, 0, none⟩) ss.length cap] W fun e w' => e = .returned (.tuple #[.string (textS a ss), .int .i64 (textE a)]) ∧ Same W w' := by
  unfold textS textE tagB
  by_cases ht : 1 ≤ a.size ∧ a.size ≤ 64
  · rw [if_pos (decide_eq_true ht), if_pos (decide_eq_true ht)]
    exact text_calls W a ht ss (some ⟨g, 0, none⟩) g 0 cap (fun _ => rfl) h.cells hl hsl
  · rw [if_neg (by simpa using ht), if_neg (by simpa using ht)]
    refine (text_bad W a ht _).mono ?_
    rintro e w' ⟨rfl, rfl⟩
    exact ⟨rfl, Fr.refl _ _⟩

end Go.Proofs.YtpkpklbambmbeaaDoor
