/- free: what lentChain hands out. -/
import Derived.Test.YtajbifblbmlffaaYA
import Derived.Test.YtajbifblbmlffaaYC
import Derived.Test.YtajbifblbmlffaaIEJ
import Derived.Test.YtajbifblbmlffaaEX
namespace Go.Proofs.Ytajbifblbmlffaa
open Go.RowKit Go.Maps

/-- A chain that came in. -/
structure BiRow (w : World) (pa : Option Addr) (pb po : Nat) (L : List Bt) : Prop where
  row : BvRow w pa pb po L
  nin : ∀ x ∈ L, NIn w x.na x.nb x.no x.nc x.ns
theorem BiRow.same {w w' : World} {pa : Option Addr} {pb po : Nat} {L : List Bt} (h : BiRow w pa pb po L) (s : Same w w') : BiRow w' pa pb po L := ⟨h.row.same s, fun x hx => (h.nin x hx).same s⟩
def btC (x : Bt) : List Value := [.int .u32 (x.pg : Int), .slice x.na x.ns.length x.nc]
def btCs (L : List Bt) : List Value := L.flatMap btC
theorem btCs_app (a b : List Bt) : btCs (a ++ b) = btCs a ++ btCs b := by simp [btCs]
/-- The marks behind a lent chain. -/
def mkB (k : Nat) : List Value := (List.range k).flatMap fun (i : Nat) => [.int .u32 ((800000 + i : Nat) : Int), .slice none 0 0]
/-- A batch whose numbers are lent. -/
structure LentX (W : World) (B : Nat) (x : Bt) : Prop where
  no : x.no = 0
  na : x.na = some ⟨x.nb, 0, none⟩
  ns : LentN W B x.nb x.nc x.ns
theorem LentX.fr {W W' : World} {B : Nat} {S : Nat → Prop} {x : Bt} (h : LentX W B x) (f : Fr S W W') (hn : ¬ S x.nb) : LentX W' B x := ⟨h.no, h.na, own_frameB h.ns f (fun k hk e => by
  have : x.nb = k := by simpa [Value.ownBlock] using hk
  exact hn (this ▸ e))⟩
/-- While a chain is lent. -/
structure LC (w W : World) (L : List Bt) (k : Nat) (ao : Option Addr) (cc : Nat) (M : List Bt) (marks : Nat) : Prop where
  same : Same w W
  row : W.ownsRow w.heap.size 53 2 (.slice ao (k + marks) cc) (k + marks) (btCs M ++ mkB marks)
  key : M.map Bt.key = (L.take k).map Bt.key
  lent : ∀ x ∈ M, LentX W w.heap.size x
theorem LC.blk {w W : World} {L M : List Bt} {k cc marks : Nat} {ao : Option Addr} (h : LC w W L k ao cc M marks) {x : Bt} (hx : x ∈ M) : (Value.slice ao (k + marks) cc).ownBlock ≠ some x.nb := fun e => by
  rcases h.row.2 with ⟨hv, _⟩ | ⟨g, c, cur, hv, hb, hh, _⟩
  · rw [hv] at e; cases e
  · rw [hv] at e
    have : g = x.nb := by simpa [Value.ownBlock] using e
    subst this
    exact own_neT (own_base (h.lent x hx).ns (Nat.zero_le _)) hh (by decide) x.nb rfl rfl
structure IL (pa : Option Addr) (n cp : Nat) (a : Act) : Prop where
  size : a.tmps.size = 42
  defers : a.defers = []
  s0 : a.eval (.tmp 0) = .slice pa n cp
theorem IL.keep {pa : Option Addr} {n cp : Nat} {a0 a : Act} {env : List (Nat × Value)} (h : IL pa n cp a0) (f : Fe a0 env a) (hk : look env 0 (a0.eval (.tmp 0)) = a0.eval (.tmp 0)) : IL pa n cp a :=
  ⟨f.size.trans h.size, f.defers.trans h.defers, ((f.at_ 0).trans hk).trans h.s0⟩
def kOf (a : Act) (t : Nat) : Nat := match a.eval (.tmp t) with | .int _ x => x.toNat | _ => 0
theorem kOf_eq {a : Act} {t k : Nat} (h : a.eval (.tmp t) = .int .i64 (k : Int)) : kOf a t = k := by unfold kOf; rw [h]; simp
theorem wt_mem {x : Bt} {L : List Bt} (h : x ∈ L) : x.ns.length + 1 ≤ wt L := by
  induction L with
  | nil => simp at h
  | cons y L ih =>
    rcases List.mem_cons.1 h with rfl | h
    · simp only [wt]; omega
    · have := ih h; simp only [wt]; omega
theorem take_key {L : List Bt} {k : Nat} {x : Bt} (h : L[k]? = some x) : (L.take (k + 1)).map Bt.key = (L.take k).map Bt.key ++ [x.key] := by
  rw [List.take_add_one, h]
  simp
/-- A chain that was lent: M is where its batches lie now. -/
structure LentC (W : World) (B g cc : Nat) (n : Nat) (L M : List Bt) : Prop where
  row : W.ownsRow B 53 2 (.slice (some ⟨g, 0, none⟩) (n + 70) cc) (n + 70) (btCs M ++ mkB 70)
  key : M.map Bt.key = L.map Bt.key
  lent : ∀ x ∈ M, LentX W B x
end Go.Proofs.Ytajbifblbmlffaa
