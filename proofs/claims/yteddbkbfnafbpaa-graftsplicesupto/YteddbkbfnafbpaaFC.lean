/- The walk of GraftFull. -/
import Derived.Test.YteddbkbfnafbpaaFB
import Derived.Test.YteddbkbfnafbpaaKP
import Derived.Test.YteddbkbfnafbpaaKI
namespace Go.Proofs.Yteddbkbfnafbpaa
open Go.RowKit

def fullV (p q : Int) (N : Nd) : Bool := chkN p q N == 0 && decide (p - 32 < sizeV p q N)
def thinV (p q : Int) (N : Nd) : Bool := chkN p q N == 0 && decide (sizeV p q N < (p - 30) / 3)
theorem chk_p {p q : Int} {N : Nd} (h : chkN p q N = 0) : p = 1024 ∨ p = 2048 ∨ p = 4096 ∨ p = 8192 := (frameP_cases (chk_zero h).1).1
theorem sizeV_range {p q : Int} {N : Nd} (h : (formN true q N).length ≤ 50000000000) : 0 ≤ sizeV p q N ∧ sizeV p q N ≤ 50000000000 := by
  unfold sizeV
  split <;> omega
def noNd : Nd := ⟨[], [], []⟩
def noNr : Nr := ⟨none, 0, 0, 0, none, 0, 0, 0, none, 0, 0, 0⟩
theorem noNd_ok (w : World) (q : Int) : NdOk w noNr q noNd := by
  have b6 : ∀ t, (formN t q noNd).length ≤ 50000000000 := fun t => by
    unfold formN; rw [if_pos (by rfl), List.length_cons, List.length_append]
    have := freeB_length ([] : List (ByteArray × ByteArray)).length
    show (freeB ([] : List (ByteArray × ByteArray)).length).length + (pairsB []).length + 1 ≤ _
    have e : (pairsB []).length = 0 := rfl
    omega
  exact ⟨⟨⟨fun e => absurd rfl e, fun j x hx => by simp [noNd] at hx⟩, ⟨fun e => absurd rfl e, fun j x hx => by simp [noNd] at hx⟩, ⟨fun e => absurd rfl e, fun j x hx => by simp [noNd] at hx⟩, by simp [noNd], by simp [noNd], by simp [noNd], by simp [noNd]⟩, ⟨by simp [noNd], by simp [noNr]⟩, b6 _, b6 _⟩
theorem noNd_thin : thinV 1024 32 noNd = true := by decide +kernel
theorem LentAt.ok {w : World} {B gp cp gs cs gk ck : Nat} {N : Nd} {q : Int} (h : LentAt w B gp cp gs cs gk ck N) {v : World} {r : Nr} (hn : NdAt v r N) (l1 : (formN true q N).length ≤ 50000000000) (l0 : (formN false q N).length ≤ 50000000000) : NdOk w (lentNr gp cp gs cs gk ck) q N := by
  have h2 := own_cap (own_base h.oS (Nat.zero_le _))
  exact ⟨h.nd hn, ⟨by show N.ss.length ≤ cs; omega, by show cs ≤ _; have := h2.2; unfold maxLen at this; omega⟩, l1, l0⟩

end Go.Proofs.Yteddbkbfnafbpaa
