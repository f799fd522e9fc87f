/- free: bytes made of a text, grown by texts. -/
import Derived.Lib.FrozenHead
import Derived.Test.YtneopkhkkfckcaaIEJ
namespace Go.Proofs.Ytneopkhkkfckcaa
open Go.RowKit Go.Maps Go.Lib

/-- Bytes of one's own, whatever lies behind them. -/
def BRow (w : World) (base g n cap : Nat) (xs : List UInt8) : Prop :=
  base ≤ g ∧ n = xs.length ∧ ∃ cur fz, w.heap[g]? = some (.cells cur 5 fz) ∧ (fz.2 = 0 ∨ cur.size ≤ fz.1) ∧ n ≤ cap ∧ cap ≤ maxLen ∧ cur.size = cap ∧ cur.toList.take n = bcells xs
theorem BRow.cell {w : World} {base g n cap : Nat} {xs : List UInt8} (h : BRow w base g n cap xs) (j : Nat) (x : UInt8) (hx : xs[j]? = some x) : w.cell? ⟨g, j, none⟩ = some (.int .u8 x.toNat) := by
  obtain ⟨_, hn, cur, fz, hh, _, _, _, _, ht⟩ := h
  rw [cell_of_row _ _ _ _ _ _ hh]
  have hj : j < n := by rw [hn]; exact (List.getElem?_eq_some_iff.1 hx).1
  have h1 : (cur.toList.take n)[j]? = some (.int .u8 x.toNat) := by rw [ht, bcells, List.getElem?_map, hx]; rfl
  rw [List.getElem?_take, if_pos hj] at h1
  rw [← Array.getElem?_toList]; exact h1
theorem BRow.lt {w : World} {base g n cap : Nat} {xs : List UInt8} (h : BRow w base g n cap xs) : g < w.heap.size := by
  obtain ⟨_, _, cur, fz, hh, _⟩ := h
  exact lt_of_heap hh
theorem BRow.fr {w w' : World} {S : Nat → Prop} {base g n cap : Nat} {xs : List UInt8} (h : BRow w base g n cap xs) (f : Fr S w w') (hb : ¬ S g) : BRow w' base g n cap xs := by
  obtain ⟨h1, h2, cur, fz, hh, r⟩ := h
  exact ⟨h1, h2, cur, fz, (f.block _ (lt_of_heap hh) hb).trans hh, r⟩
end Go.Proofs.Ytneopkhkkfckcaa
