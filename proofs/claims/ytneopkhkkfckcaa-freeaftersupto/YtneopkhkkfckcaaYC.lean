/- free: owned and Check, for every chain. -/
import Derived.Test.YtneopkhkkfckcaaEH
namespace Go.Proofs.Ytneopkhkkfckcaa
open Go.RowKit Go.Maps

/-- A batch. -/
structure BvOk (w : World) (x : Bt) : Prop where
  row : NRow w x.na x.nb x.no x.ns
  hpg : x.pg < 4294967296
  hns : ∀ y ∈ x.ns, y < 4294967296
structure BvRow (w : World) (pa : Option Addr) (pb po : Nat) (L : List Bt) : Prop where
  place : L ≠ [] → pa = some ⟨pb, po, none⟩ ∧ pb < w.heap.size
  cells : ∀ (j : Nat) (x : Bt), L[j]? = some x → w.cell? ⟨pb, po + j * 2, none⟩ = some (.int .u32 (x.pg : Int)) ∧ w.cell? ⟨pb, po + j * 2 + 1, none⟩ = some (.slice x.na x.ns.length x.nc) ∧ BvOk w x
theorem BvOk.same {w w' : World} {x : Bt} (h : BvOk w x) (s : Same w w') : BvOk w' x := ⟨h.row.same s, h.hpg, h.hns⟩
theorem BvRow.same {w w' : World} {pa : Option Addr} {pb po : Nat} {L : List Bt} (h : BvRow w pa pb po L) (s : Same w w') : BvRow w' pa pb po L :=
  ⟨fun e => ⟨(h.place e).1, Nat.lt_of_lt_of_le (h.place e).2 s.size⟩, fun j x hx => by
    obtain ⟨h1, h2, h3⟩ := h.cells j x hx
    exact ⟨s.keep h1, s.keep h2, h3.same s⟩⟩
/-- How many numbers batches name. -/
def wt : List Bt → Nat
  | [] => 0
  | x :: L => x.ns.length + 1 + wt L
theorem wt_len (L : List Bt) : L.length ≤ wt L := by
  induction L with
  | nil => exact Nat.le_refl _
  | cons x L ih => simp only [wt, List.length_cons]; omega
end Go.Proofs.Ytneopkhkkfckcaa
