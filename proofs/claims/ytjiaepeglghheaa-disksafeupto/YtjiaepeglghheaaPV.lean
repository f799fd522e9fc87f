/- DiskSafe: what stands behind its first loop. -/
import Derived.Test.YtjiaepeglghheaaPU
namespace Go.Proofs.Ytjiaepeglghheaa
open Go.RowKit

def cPT3 : Code := (Code.seq (Code.seq (Code.region 40 rPL40 false) (Code.cond (Operand.tmp 203) (Code.seq (Code.region 41 rPL41 false) Code.ret) Code.skip)) (Code.seq (Code.region 42 rPL42 false) (Code.seq (Code.seq (Code.region 43 rPL43 false) (Code.block 6 (Code.loop cPL4))) (Code.seq (Code.region 56 rPL56 false) Code.ret))))
def cPT2 : Code := (Code.seq (Code.seq (Code.region 29 rPL29 false) (Code.cond (Operand.tmp 135) (Code.seq (Code.region 30 rPL30 false) Code.ret) Code.skip)) (Code.seq (Code.region 31 rPL31 false) (Code.seq (Code.region 32 rPL32 false) (Code.seq (Code.seq (Code.region 33 rPL33 false) (Code.block 4 (Code.loop cPL3))) cPT3))))
def cPT1 : Code := (Code.seq (Code.seq (Code.region 22 rPL22 false) (Code.cond (Operand.tmp 109) (Code.seq (Code.region 23 rPL23 false) Code.ret) Code.skip)) (Code.seq (Code.region 24 rPL24 false) (Code.seq (Code.seq (Code.region 25 rPL25 false) (Code.block 2 (Code.loop cPL2))) cPT2)))
/-- The disk, its fork, the writes, what was synced, what is seen and what waits. -/
structure SfB (w W : World) (b bw bk : Nat) (D : Dk) (sa na wa : Option Addr) (sc nc wc : Nat) (U V K : Nat → Prop) : Prop where
  d : DkAt W b D U
  k : DkAt W bk D K
  r : WrAt W bw (wrOf D.W) V
  y : W.ownsRow w.heap.size 9 1 (.slice sa D.I.length sc) D.I.length (scells D.I)
  n : W.ownsRow w.heap.size 9 1 (.slice na D.P.length nc) D.P.length (scells D.P)
  a : W.ownsRow w.heap.size 54 3 (.slice wa D.W.length wc) D.W.length (anCs D.W)
  u : ∀ k, U k → w.heap.size ≤ k ∧ ¬ V k ∧ ¬ K k
  kk : ∀ k, K k → w.heap.size ≤ k ∧ ¬ V k
  by_ : ∀ k, (Value.slice sa D.I.length sc).ownBlock = some k → ¬ U k ∧ ¬ K k
  bn : ∀ k, (Value.slice na D.P.length nc).ownBlock = some k → ¬ U k ∧ ¬ K k
  ba : ∀ k, (Value.slice wa D.W.length wc).ownBlock = some k → ¬ U k ∧ ¬ K k
  same : Same w W
/-- The world went on without them. -/
theorem SfB.fr {w W W' : World} {b bw bk : Nat} {D : Dk} {sa na wa : Option Addr} {sc nc wc : Nat} {U V K X : Nat → Prop} (h : SfB w W b bw bk D sa na wa sc nc wc U V K) (f : Fr X W W') (hx : ∀ k, X k → w.heap.size ≤ k ∧ ¬ U k ∧ ¬ K k ∧ ¬ V k ∧ ¬ (Value.slice sa D.I.length sc).ownBlock = some k ∧ ¬ (Value.slice na D.P.length nc).ownBlock = some k ∧ ¬ (Value.slice wa D.W.length wc).ownBlock = some k) : SfB w W' b bw bk D sa na wa sc nc wc U V K where
  d := h.d.fr f (fun k hk e => (hx k e).2.1 hk)
  k := h.k.fr f (fun k hk e => (hx k e).2.2.1 hk)
  r := h.r.fr f (fun k hk e => (hx k e).2.2.2.1 hk)
  y := own_frameB h.y f (fun k hk e => (hx k e).2.2.2.2.1 hk)
  n := own_frameB h.n f (fun k hk e => (hx k e).2.2.2.2.2.1 hk)
  a := own_frameB h.a f (fun k hk e => (hx k e).2.2.2.2.2.2 hk)
  u := h.u
  kk := h.kk
  by_ := h.by_
  bn := h.bn
  ba := h.ba
  same := Fr.trans h.same f (fun k hl e => by have := (hx k e).1; omega)
theorem SfB.on {w W W' : World} {b bw bk : Nat} {D : Dk} {sa na wa : Option Addr} {sc nc wc : Nat} {U V K : Nat → Prop} (h : SfB w W b bw bk D sa na wa sc nc wc U V K) (s : Same W W') : SfB w W' b bw bk D sa na wa sc nc wc U V K := h.fr s (fun _ f => f.elim)
/-- Without the fork. -/
structure SfC (w W : World) (b bw : Nat) (D : Dk) (sa na wa : Option Addr) (sc nc wc : Nat) (U V : Nat → Prop) : Prop where
  d : DkAt W b D U
  r : WrAt W bw (wrOf D.W) V
  y : W.ownsRow w.heap.size 9 1 (.slice sa D.I.length sc) D.I.length (scells D.I)
  n : W.ownsRow w.heap.size 9 1 (.slice na D.P.length nc) D.P.length (scells D.P)
  a : W.ownsRow w.heap.size 54 3 (.slice wa D.W.length wc) D.W.length (anCs D.W)
  u : ∀ k, U k → w.heap.size ≤ k ∧ ¬ V k
  by_ : ∀ k, (Value.slice sa D.I.length sc).ownBlock = some k → ¬ U k
  ba : ∀ k, (Value.slice wa D.W.length wc).ownBlock = some k → ¬ U k
  same : Same w W
theorem SfC.on {w W W' : World} {b bw : Nat} {D : Dk} {sa na wa : Option Addr} {sc nc wc : Nat} {U V : Nat → Prop} (h : SfC w W b bw D sa na wa sc nc wc U V) (s : Same W W') : SfC w W' b bw D sa na wa sc nc wc U V :=
  ⟨h.d.same s, h.r.fr s (fun _ _ f => f), own_frameB h.y s (fun _ _ f => f), own_frameB h.n s (fun _ _ f => f), own_frameB h.a s (fun _ _ f => f), h.u, h.by_, h.ba, h.same.trans s⟩
/-- The fork lost its power. -/
theorem SfB.lost {w W W' : World} {b bw bk : Nat} {D : Dk} {sa na wa : Option Addr} {sc nc wc : Nat} {U V K : Nat → Prop} (h : SfB w W b bw bk D sa na wa sc nc wc U V K) (f : Fr K W W') : SfC w W' b bw D sa na wa sc nc wc U V where
  d := h.d.fr f (fun k hk => (h.u k hk).2.2)
  r := h.r.fr f (fun k hk e => (h.kk k e).2 hk)
  y := own_frameB h.y f (fun k hk => (h.by_ k hk).2)
  n := own_frameB h.n f (fun k hk => (h.bn k hk).2)
  a := own_frameB h.a f (fun k hk => (h.ba k hk).2)
  u := fun k hk => ⟨(h.u k hk).1, (h.u k hk).2.1⟩
  by_ := fun k hk => (h.by_ k hk).1
  ba := fun k hk => (h.ba k hk).1
  same := Fr.trans h.same f (fun k hl e => by have := (h.kk k e).1; omega)
/-- The disk that lost its power, the writes, what was synced, what waited. -/
structure SfD (w W : World) (b bw : Nat) (D DL : Dk) (sa wa : Option Addr) (sc wc : Nat) (U V : Nat → Prop) : Prop where
  d : DkAt W b DL U
  r : WrAt W bw (wrOf D.W) V
  y : W.ownsRow w.heap.size 9 1 (.slice sa D.I.length sc) D.I.length (scells D.I)
  a : W.ownsRow w.heap.size 54 3 (.slice wa D.W.length wc) D.W.length (anCs D.W)
  u : ∀ k, U k → w.heap.size ≤ k
  same : Same w W
theorem SfD.on {w W W' : World} {b bw : Nat} {D DL : Dk} {sa wa : Option Addr} {sc wc : Nat} {U V : Nat → Prop} (h : SfD w W b bw D DL sa wa sc wc U V) (s : Same W W') : SfD w W' b bw D DL sa wa sc wc U V :=
  ⟨h.d.same s, h.r.fr s (fun _ _ f => f), own_frameB h.y s (fun _ _ f => f), own_frameB h.a s (fun _ _ f => f), h.u, h.same.trans s⟩
theorem SfC.lost {w W W' : World} {b bw : Nat} {D DL : Dk} {sa na wa : Option Addr} {sc nc wc : Nat} {U V : Nat → Prop} (h : SfC w W b bw D sa na wa sc nc wc U V) (f : Fr U W W') (d : DkAt W' b DL (Land U W W')) : SfD w W' b bw D DL sa wa sc wc (Land U W W') V where
  d := d
  r := h.r.fr f (fun k hk e => (h.u k e).2 hk)
  y := own_frameB h.y f (fun k hk => h.by_ k hk)
  a := own_frameB h.a f (fun k hk => h.ba k hk)
  u := fun k hk => by
    rcases hk with e | e
    · exact (h.u k e).1
    · exact Nat.le_trans h.same.size e.1
  same := Fr.trans h.same f (fun k hl e => by have := (h.u k e).1; omega)
theorem own_low {W : World} {B n c sz : Nat} {e : TypeId} {ao : Option Addr} {xs : List Value} (h : W.ownsRow B e sz (.slice ao n c) n xs) {k : Nat} (hk : (Value.slice ao n c).ownBlock = some k) : B ≤ k := by
  cases ao with
  | none => cases hk
  | some z => have := (own_ge h).1; simp [Value.ownBlock] at hk; omega
/-- Behind the loop: what is seen, what waits, two forks. -/
theorem SfB.make {w W3 W4 W5 W6 W7 : World} {b bw : Nat} {D : Dk} {sa na wa : Option Addr} {sc nc wc : Nat} {U V : Nat → Prop} (g : SfW w W3 b bw D sa sc U V) (s4 : Same W3 W4) (s5 : Same W4 W5) (s6 : Same W5 W6) (s7 : Same W6 W7) (n : W4.ownsRow W3.heap.size 9 1 (.slice na D.P.length nc) D.P.length (scells D.P)) (a : W5.ownsRow W4.heap.size 54 3 (.slice wa D.W.length wc) D.W.length (anCs D.W)) (k : DkAt W7 W6.heap.size D (fun k => W6.heap.size ≤ k ∧ k < W7.heap.size)) :
    SfB w W7 b bw W6.heap.size D sa na wa sc nc wc U V (fun k => W6.heap.size ≤ k ∧ k < W7.heap.size) := by
  have z3 := g.same.size
  have z4 := s4.size
  have z5 := s5.size
  have z6 := s6.size
  have z7 := s7.size
  have s47 := s4.trans (s5.trans (s6.trans s7))
  have g7 := g.on s47
  have n7 := own_frameB n (s5.trans (s6.trans s7)) (fun _ _ f => f)
  have a7 := own_frameB a (s6.trans s7) (fun _ _ f => f)
  refine ⟨g7.d, k, g7.wr, g7.sy, own_base n7 z3, own_base a7 (by omega), fun k hk => ⟨g7.u k hk, g7.uv k hk, fun h => ?_⟩, fun k hk => ⟨by have := hk.1; omega, fun h => ?_⟩, fun k hk => ⟨(g7.su k hk).1, fun h => ?_⟩, fun k hk => ⟨fun h => ?_, fun h => ?_⟩, fun k hk => ⟨fun h => ?_, fun h => ?_⟩, g7.same⟩
  · have := g.d.lt k hk; have := h.1; omega
  · have := g.wr.lt k h; have := hk.1; omega
  · have := own_lt g.sy hk; have := h.1; omega
  · have := own_low n hk; have := g.d.lt k h; omega
  · have := own_lt n hk; have := h.1; omega
  · have := own_low a hk; have := g.d.lt k h; omega
  · have := own_lt a hk; have := h.1; omega
theorem SfB.far {w W3 W4 W5 W6 W7 : World} {b bw : Nat} {D : Dk} {sa na wa : Option Addr} {sc nc wc : Nat} {U V : Nat → Prop} (g : SfW w W3 b bw D sa sc U V) (s4 : Same W3 W4) (s5 : Same W4 W5) (_ : Same W5 W6) (n : W4.ownsRow W3.heap.size 9 1 (.slice na D.P.length nc) D.P.length (scells D.P)) (a : W5.ownsRow W4.heap.size 54 3 (.slice wa D.W.length wc) D.W.length (anCs D.W)) :
    ∀ k, W5.heap.size ≤ k ∧ k < W6.heap.size → w.heap.size ≤ k ∧ ¬ U k ∧ ¬ (W6.heap.size ≤ k ∧ k < W7.heap.size) ∧ ¬ V k ∧ ¬ (Value.slice sa D.I.length sc).ownBlock = some k ∧ ¬ (Value.slice na D.P.length nc).ownBlock = some k ∧ ¬ (Value.slice wa D.W.length wc).ownBlock = some k := by
  intro k hk
  have z3 := g.same.size
  have z4 := s4.size
  have z5 := s5.size
  have h1 := hk.1
  have h2 := hk.2
  refine ⟨by omega, fun h => ?_, fun h => ?_, fun h => ?_, fun h => ?_, fun h => ?_, fun h => ?_⟩
  · have := g.d.lt k h; omega
  · have := h.1; omega
  · have := g.wr.lt k h; omega
  · have := own_lt g.sy h; omega
  · have := own_lt n h; omega
  · have := own_lt a h; omega
/-- The image is no longer than what is seen. -/
theorem lose_short {D : Dk} {F : List Nat} (h : DkSafe D) : (dkLose D F).I.length ≤ D.P.length := by
  rw [h.P]
  show (setP D.page (fateF F) 0 D.W D.I).length ≤ _
  rw [setP_length, setP_length]
  exact lenF_mono (fun _ => by decide) _ _ _ _ (Nat.le_refl _)
theorem lose_len {D : Dk} {F : List Nat} : (dkLose D F).I.length = lenF (fateF F) 0 D.W D.I.length := setP_length _ _ _
end Go.Proofs.Ytjiaepeglghheaa
