/- Plain: rising texts, taken and dropped. -/
import Derived.Test.YteddbkbfnafbpaaVE
namespace Go.Proofs.Yteddbkbfnafbpaa
open Go.RowKit

theorem rises_all {mk : Int} : ∀ (l : List ByteArray) (pv : ByteArray), risesP mk pv l = true → ∀ z ∈ l, Op.bytesLess pv.toList z.toList = true
  | [], _, _, z, hz => by simp at hz
  | k :: l, pv, h, z, hz => by
    obtain ⟨h1, _, h3⟩ := rises_cons.1 h
    rcases List.mem_cons.1 hz with rfl | hz
    · exact h1
    · exact less_trans h1 (rises_all l k h3 z hz)
theorem rises_lt {mk : Int} : ∀ (l : List ByteArray) (pv : ByteArray) (i j : Nat) (a b : ByteArray), risesP mk pv l = true → l[i]? = some a → l[j]? = some b → i < j → Op.bytesLess a.toList b.toList = true
  | [], _, i, j, a, b, _, ha, _, _ => by simp at ha
  | k :: l, pv, 0, j, a, b, h, ha, hb, hij => by
    obtain ⟨_, _, h3⟩ := rises_cons.1 h
    obtain ⟨j, rfl⟩ : ∃ t, j = t + 1 := ⟨j - 1, by omega⟩
    simp at ha hb
    subst ha
    exact rises_all l k h3 b (List.mem_of_getElem? hb)
  | k :: l, pv, i + 1, j, a, b, h, ha, hb, hij => by
    obtain ⟨_, _, h3⟩ := rises_cons.1 h
    obtain ⟨j, rfl⟩ : ∃ t, j = t + 1 := ⟨j - 1, by omega⟩
    exact rises_lt l k i j a b h3 (by simpa using ha) (by simpa using hb) (by omega)
theorem rises_take {mk : Int} : ∀ (l : List ByteArray) (pv : ByteArray) (k : Nat), risesP mk pv l = true → risesP mk pv (l.take k) = true
  | _, _, 0, _ => by rw [List.take_zero]; rfl
  | [], _, k + 1, _ => by rw [List.take_nil]; rfl
  | a :: l, pv, k + 1, h => by
    obtain ⟨h1, h2, h3⟩ := rises_cons.1 h
    rw [List.take_succ_cons]
    exact rises_cons.2 ⟨h1, h2, rises_take l a k h3⟩
theorem rises_drop {mk : Int} : ∀ (l : List ByteArray) (pv : ByteArray) (k : Nat), risesP mk pv l = true → risesP mk pv (l.drop k) = true
  | _, _, 0, h => by rw [List.drop_zero]; exact h
  | [], _, k + 1, _ => by rw [List.drop_nil]; rfl
  | a :: l, pv, k + 1, h => by
    obtain ⟨h1, _, h3⟩ := rises_cons.1 h
    rw [List.drop_succ_cons]
    exact rises_drop l pv k (rises_weak h3 h1)
end Go.Proofs.Yteddbkbfnafbpaa
