/- halved of a leaf, whole. -/
import Derived.Test.YteddbkbfnafbpaaKC
namespace Go.Proofs.Yteddbkbfnafbpaa
open Go.RowKit

theorem pcells_cons (x : ByteArray × ByteArray) (ps : List (ByteArray × ByteArray)) : pcells (x :: ps) = .string x.1 :: .string x.2 :: pcells ps := rfl
theorem pcells_takeK : ∀ (ps : List (ByteArray × ByteArray)) (k : Nat), (pcells ps).take (k * 2) = pcells (ps.take k)
  | _, 0 => by rw [Nat.zero_mul, List.take_zero, List.take_zero]; rfl
  | [], k + 1 => by rw [List.take_nil]; exact List.take_nil
  | x :: ps, k + 1 => by
    rw [pcells_cons, List.take_succ_cons, pcells_cons, ← pcells_takeK ps k, show (k + 1) * 2 = k * 2 + 1 + 1 from by omega, List.take_succ_cons, List.take_succ_cons]
theorem pcells_dropK : ∀ (ps : List (ByteArray × ByteArray)) (k : Nat), (pcells ps).drop (k * 2) = pcells (ps.drop k)
  | _, 0 => by rw [Nat.zero_mul, List.drop_zero, List.drop_zero]
  | [], k + 1 => by rw [List.drop_nil]; exact List.drop_nil
  | x :: ps, k + 1 => by
    rw [pcells_cons, List.drop_succ_cons, ← pcells_dropK ps k, show (k + 1) * 2 = k * 2 + 1 + 1 from by omega, List.drop_succ_cons, List.drop_succ_cons]
/-- What separates a leaf's halves. -/
def sepB (x y : ByteArray) : ByteArray := y.extract 0 (comP x.data.toList y.data.toList + 1)
theorem halved_good {r : Nr} {N : Nd} {m : Nat} {x y : ByteArray × ByteArray} (w : World) (hr : PRow w r.pa r.pb r.po N.ps) (hk : N.ks.length = 0) (hx : N.ps[m]? = some x) (hy : N.ps[m + 1]? = some y) (hn : N.ps.length ≤ 1048576)
    (hc : N.ps.length ≤ r.cp) (hc0 : r.pa = none → r.cp = 0) (h3 : ∀ a, r.pa = some a → ∃ b o, a = ⟨b, o, none⟩) (hless : Op.bytesLess x.1.toList y.1.toList = true) (hsz : x.1.size ≤ 1048576) :
    Calls Try.prog 42 #[ndV r N, .int .i64 ((m + 1 : Nat) : Int)] w fun e w' => ∃ ao1 c1 ao2 c2, e = .returned (.agg #[.slice ao1 (m + 1) c1, .slice none 0 0, .slice none 0 0, .string (sepB x.1 y.1), .slice ao2 (N.ps.length - (m + 1)) c2, .slice none 0 0, .slice none 0 0]) ∧ w'.ownsRow w.heap.size 41 2 (.slice ao1 (m + 1) c1) (m + 1) (pcells (N.ps.take (m + 1))) ∧ w'.ownsRow w.heap.size 41 2 (.slice ao2 (N.ps.length - (m + 1)) c2) (N.ps.length - (m + 1)) (pcells (N.ps.drop (m + 1))) ∧ Same w w' := by
  have hl : m + 1 < N.ps.length := (List.getElem?_eq_some_iff.1 hy).1
  refine halved_leaf w hr hk hx hy hn (fun W => between_more W hless (by omega)) (fun W s => ?_) (fun W s => ?_)
  · have := firstPairs (m := m + 1) W (prow_part (hr.same s) hc0) h3 (by omega) hc hn
    rw [pcells_takeK] at this
    exact this
  · have := withoutPairs (i := 0) (m := m + 1) W (prow_part (hr.same s) hc0) h3 (by omega) hc hn
    rw [Nat.zero_mul, List.take_zero, List.nil_append, Nat.zero_add, pcells_dropK] at this
    exact this
end Go.Proofs.Yteddbkbfnafbpaa
