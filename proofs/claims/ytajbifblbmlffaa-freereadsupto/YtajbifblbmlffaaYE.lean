/- free: keptChain of what was lent. -/
import Derived.Test.YtajbifblbmlffaaYD
namespace Go.Proofs.Ytajbifblbmlffaa
open Go.RowKit Go.Maps

theorem btCs_at {M : List Bt} {k : Nat} {y : Bt} (t : List Value) (h : M[k]? = some y) : (btCs M ++ t)[k * 2]? = some (.int .u32 (y.pg : Int)) ∧ (btCs M ++ t)[k * 2 + 1]? = some (.slice y.na y.ns.length y.nc) := by
  induction M generalizing k with
  | nil => simp at h
  | cons x M ih =>
    have e : btCs (x :: M) ++ t = (.int .u32 (x.pg : Int)) :: (.slice x.na x.ns.length x.nc) :: (btCs M ++ t) := rfl
    rw [e]
    cases k with
    | zero => obtain rfl : x = y := by simpa using h
              exact ⟨rfl, rfl⟩
    | succ k =>
      rw [show (k + 1) * 2 = k * 2 + 1 + 1 from by omega, show k * 2 + 1 + 1 + 1 = k * 2 + 1 + 1 + 1 from rfl]
      simp only [List.getElem?_cons_succ]
      exact ih (by simpa using h)
theorem btCs_len (M : List Bt) : (btCs M).length = M.length * 2 := by
  induction M with
  | nil => rfl
  | cons x M ih =>
    have e : btCs (x :: M) = (.int .u32 (x.pg : Int)) :: (.slice x.na x.ns.length x.nc) :: btCs M := rfl
    rw [e, List.length_cons, List.length_cons, List.length_cons, ih]
    omega
theorem LentC.len {W : World} {B g cc n : Nat} {L M : List Bt} (h : LentC W B g cc n L M) (hn : n = L.length) : M.length = n := by
  have := congrArg List.length h.key
  simp only [List.length_map] at this
  rw [this, hn]
theorem LentX.same {W W' : World} {B : Nat} {x : Bt} (h : LentX W B x) (s : Same W W') : LentX W' B x := h.fr s (fun f => f)
theorem LentC.same {W W' : World} {B g cc n : Nat} {L M : List Bt} (h : LentC W B g cc n L M) (s : Same W W') : LentC W' B g cc n L M := ⟨own_frameB h.row s (fun _ _ f => f), h.key, fun x hx => (h.lent x hx).same s⟩
structure IK (g n cc : Nat) (pa : Option Addr) (cp : Nat) (a : Act) : Prop where
  size : a.tmps.size = 77
  defers : a.defers = []
  s0 : a.eval (.tmp 0) = .slice (some ⟨g, 0, none⟩) n cc
  s1 : a.eval (.tmp 1) = .slice pa n cp
theorem IK.keep {g n cc : Nat} {pa : Option Addr} {cp : Nat} {a0 a : Act} {env : List (Nat × Value)} (h : IK g n cc pa cp a0) (f : Fe a0 env a) (hk : look env 0 (a0.eval (.tmp 0)) = a0.eval (.tmp 0)) (hk1 : look env 1 (a0.eval (.tmp 1)) = a0.eval (.tmp 1)) : IK g n cc pa cp a :=
  ⟨f.size.trans h.size, f.defers.trans h.defers, ((f.at_ 0).trans hk).trans h.s0, ((f.at_ 1).trans hk1).trans h.s1⟩
end Go.Proofs.Ytajbifblbmlffaa
