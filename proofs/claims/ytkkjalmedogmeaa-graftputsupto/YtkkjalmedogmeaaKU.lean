/- Put and Remove of leaves, by what they make; the walk of GraftBack. -/
import Derived.Test.YtkkjalmedogmeaaKS
import Derived.Test.YtkkjalmedogmeaaKT
import Derived.Test.YtkkjalmedogmeaaKP
import Derived.Test.YtkkjalmedogmeaaKD
import Derived.Test.YtkkjalmedogmeaaKI
namespace Go.Proofs.Ytkkjalmedogmeaa
open Go.RowKit

def leafNr (ao : Option Addr) (g c : Nat) : Nr := ⟨ao, g, 0, c, none, 0, 0, 0, none, 0, 0, 0⟩
/-- A leaf that was made: its pairs in a row of its own. -/
structure MadeLeaf (w : World) (B : Nat) (ao : Option Addr) (c : Nat) (M : List (ByteArray × ByteArray)) : Prop where
  own : w.ownsRow B 30 2 (.slice ao M.length c) M.length (pcells M)
theorem MadeLeaf.same {w w' : World} {B c : Nat} {ao : Option Addr} {M : List (ByteArray × ByteArray)} (h : MadeLeaf w B ao c M) (s : Same w w') : MadeLeaf w' B ao c M := ⟨own_frameB h.own s (fun _ _ f => f)⟩
theorem MadeLeaf.nd {w : World} {B c : Nat} {ao : Option Addr} {M : List (ByteArray × ByteArray)} (h : MadeLeaf w B ao c M) (hn : M.length ≤ 4611686018427387904) : ∃ g, NdAt w (leafNr ao g c) ⟨M, [], []⟩ := by
  obtain ⟨g, r⟩ := own_prow (own_base h.own (Nat.zero_le _)) rfl
  exact ⟨g, r, ⟨fun e => absurd rfl e, fun j x hx => by simp at hx⟩, ⟨fun e => absurd rfl e, fun j x hx => by simp at hx⟩, fun x hx => by simp at hx, hn, Nat.zero_le _, Nat.zero_le _⟩
theorem MadeLeaf.c0 {w : World} {B c : Nat} {ao : Option Addr} {M : List (ByteArray × ByteArray)} (h : MadeLeaf w B ao c M) : ao = none → c = 0 := fun e => by
  obtain ⟨_, ⟨h2, _⟩ | ⟨g, cap, cur, h2, _⟩⟩ := h.own
  · injection h2
  · rw [e] at h2; cases h2
theorem put_zero {p q : Int} {N : Nd} {k v : ByteArray} (h : putE p q N k v = 0) : chkN p q N = 0 ∧ N.ks.length = 0 ∧ 1 ≤ k.size ∧ (k.size : Int) ≤ p / 16 ∧ (v.size : Int) ≤ p / 8 := by
  unfold putE at h
  by_cases h0 : askE p q (leafG p q N) = 0
  · rw [if_pos h0] at h
    by_cases h1 : 1 ≤ k.size ∧ (k.size : Int) ≤ p / 16 ∧ (v.size : Int) ≤ p / 8
    · unfold askE at h0
      by_cases hf : frameP p q = true
      · rw [if_pos hf] at h0
        by_cases hl : leafG p q N = true
        · unfold leafG at hl
          simp only [Bool.and_eq_true, decide_eq_true_eq] at hl
          exact ⟨hl.1, hl.2, h1⟩
        · rw [if_neg hl] at h0; exact absurd h0 (by decide)
      · rw [if_neg hf] at h0; exact absurd h0 (by decide)
    · rw [if_neg h1] at h; exact absurd h (by decide)
  · rw [if_neg h0] at h; exact absurd h h0
theorem ins_lenE {k v : ByteArray} {ps : List (ByteArray × ByteArray)} {i : Nat} {b : Bool} (hf : findP k ps 0 = (i, b)) : (insR k v ps).length = ps.length - (if b = true then 1 else 0) + 1 ∧ (delR k ps).length = ps.length - (if b = true then 1 else 0) := by
  obtain ⟨h1, h2, h3⟩ := find_parts k v ps i b hf
  rw [← h2, ← h3]
  simp only [List.length_append, List.length_cons, List.length_take, List.length_drop]
  omega
theorem put_ok {p q : Int} {r : Nr} {N : Nd} {k v : ByteArray} (w : World) (h : NdAt w r N) (hc : chkN p q N = 0) (hk : N.ks.length = 0) (h1 : 1 ≤ k.size) (h2 : (k.size : Int) ≤ p / 16) (h4 : (v.size : Int) ≤ p / 8)
    (hcp : N.ps.length ≤ r.cp) (hc0 : r.pa = none → r.cp = 0) (h3 : ∀ a, r.pa = some a → ∃ b o, a = ⟨b, o, none⟩) (hn : N.ps.length ≤ 1048000) :
    Calls Try.prog 6 #[frameV p q, ndV r N, .agg #[.string k, .string v]] w fun e w' => ∃ ao c, e = .returned (.tuple #[nodeV ao (insR k v N.ps).length c none 0 0 none 0 0, .bool (findP k N.ps 0).2, .int .i64 0]) ∧ MadeLeaf w' w.heap.size ao c (insR k v N.ps) ∧ Same w w' := by
  obtain ⟨i, b, hf⟩ : ∃ i b, findP k N.ps 0 = (i, b) := ⟨_, _, rfl⟩
  obtain ⟨q1, q2, q3⟩ := find_parts k v N.ps i b hf
  obtain ⟨q4, q5⟩ := ins_lenE (v := v) hf
  refine (put_good w h hc hk h1 h2 h4 hcp hc0 h3 hn hf rfl q1).mono ?_
  rintro e w' ⟨ao, c, rfl, own, s⟩
  rw [pcells_takeK, pcells_dropK, show [Value.string k, Value.string v] ++ pcells (N.ps.drop (i + if b = true then 1 else 0)) = pcells ((k, v) :: N.ps.drop (i + if b = true then 1 else 0)) from rfl, ← pcells_app, q2, ← q4] at own
  rw [← q4]
  exact ⟨ao, c, by rw [hf], ⟨own⟩, s⟩
theorem remove_ok {p q : Int} {r : Nr} {N : Nd} {k : ByteArray} (w : World) (h : NdAt w r N) (hc : chkN p q N = 0) (hk : N.ks.length = 0)
    (hcp : N.ps.length ≤ r.cp) (hc0 : r.pa = none → r.cp = 0) (h3 : ∀ a, r.pa = some a → ∃ b o, a = ⟨b, o, none⟩) (hn : N.ps.length ≤ 1048000) :
    Calls Try.prog 12 #[frameV p q, ndV r N, .string k] w fun e w' => ∃ ao c, e = .returned (.tuple #[nodeV ao (delR k N.ps).length c none 0 0 none 0 0, .bool (findP k N.ps 0).2, .int .i64 0]) ∧ MadeLeaf w' w.heap.size ao c (delR k N.ps) ∧ Same w w' := by
  obtain ⟨i, b, hf⟩ : ∃ i b, findP k N.ps 0 = (i, b) := ⟨_, _, rfl⟩
  obtain ⟨q1, q2, q3⟩ := find_parts k ⟨#[]⟩ N.ps i b hf
  obtain ⟨q4, q5⟩ := ins_lenE (v := ⟨#[]⟩) hf
  refine (remove_good w h hc hk hcp hc0 h3 hn hf rfl q1).mono ?_
  rintro e w' ⟨ao, c, rfl, own, s⟩
  rw [pcells_takeK, pcells_dropK, ← pcells_app, q3, ← q5] at own
  rw [← q5]
  exact ⟨ao, c, by rw [hf], ⟨own⟩, s⟩
end Go.Proofs.Ytkkjalmedogmeaa
