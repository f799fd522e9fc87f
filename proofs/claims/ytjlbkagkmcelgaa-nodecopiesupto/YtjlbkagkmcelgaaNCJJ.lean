/- apart of two nodes whose rows lie in blocks of their own. -/
import Derived.Test.YtjlbkagkmcelgaaYAJ
namespace Go.Proofs.Ytjlbkagkmcelgaa
open Go.RowKit Go.Maps

/-- A node's three rows, each a row of its own. -/
structure Own3 (W : World) (p s k : Sl) : Prop where
  P : ∃ cs, RX FP W p cs
  S : ∃ cs, RX FS W s cs
  K : ∃ cs, RX FK W k cs
  lp : p.n ≤ 1048576
  ls : s.n ≤ 1048576
  lk : k.n ≤ 1048576
/-- They bear the mark m. -/
structure Mkd3 (W : World) (p s k : Sl) (m : Nat) : Prop where
  P : RX FP W p (rp FP p.n m)
  S : RX FS W s (rp FS s.n m)
  K : RX FK W k (rp FK k.n m)
/-- They are grown. -/
structure Grn3 (w W : World) (p s k : Sl) (m : Nat) (xp xs xk : Sl) : Prop where
  P : GrB FP w W p m (256 + m) 40 xp
  S : GrB FS w W s m (256 + m) 40 xs
  K : GrB FK w W k m (256 + m) 40 xk
section
variable {w W W' : World} {p s k q t l xp xs xk : Sl} {m : Nat} {T : Nat → Prop}
theorem Own3.lt (h : Own3 W p s k) : ∀ i, inN p s k i → i < W.heap.size := fun i hi => by
  obtain ⟨_, h1⟩ := h.P
  obtain ⟨_, h2⟩ := h.S
  obtain ⟨_, h3⟩ := h.K
  rcases hi with e | e | e
  · exact h1.lt i e
  · exact h2.lt i e
  · exact h3.lt i e
theorem Own3.fr (h : Own3 W p s k) (f : Fr T W W') (hT : ∀ i, inN p s k i → ¬ T i) : Own3 W' p s k := by
  obtain ⟨_, h1⟩ := h.P
  obtain ⟨_, h2⟩ := h.S
  obtain ⟨_, h3⟩ := h.K
  exact ⟨⟨_, h1.fr f (fun i e => hT i (Or.inl e))⟩, ⟨_, h2.fr f (fun i e => hT i (Or.inr (Or.inl e)))⟩, ⟨_, h3.fr f (fun i e => hT i (Or.inr (Or.inr e)))⟩, h.lp, h.ls, h.lk⟩
theorem Mkd3.fr (h : Mkd3 W p s k m) (f : Fr T W W') (hT : ∀ i, inN p s k i → ¬ T i) : Mkd3 W' p s k m :=
  ⟨h.P.fr f (fun i e => hT i (Or.inl e)), h.S.fr f (fun i e => hT i (Or.inr (Or.inl e))), h.K.fr f (fun i e => hT i (Or.inr (Or.inr e)))⟩
/-- Nodes whose rows of one kind lie apart lie apart. -/
theorem Own3.off (h : Own3 W p s k) (g : Own3 W q t l) (hp : ∀ i, p.blk = some i → ¬ q.blk = some i) (hs : ∀ i, s.blk = some i → ¬ t.blk = some i) (hk : ∀ i, k.blk = some i → ¬ l.blk = some i) : ∀ i, inN p s k i → ¬ inN q t l i := fun i hi hj => by
  obtain ⟨_, h1⟩ := h.P
  obtain ⟨_, h2⟩ := h.S
  obtain ⟨_, h3⟩ := h.K
  obtain ⟨_, g1⟩ := g.P
  obtain ⟨_, g2⟩ := g.S
  obtain ⟨_, g3⟩ := g.K
  rcases hi with e | e | e <;> rcases hj with d | d | d
  · exact hp i e d
  · exact h1.off g2 (by decide) i e d
  · exact h1.off g3 (by decide) i e d
  · exact h2.off g1 (by decide) i e d
  · exact hs i e d
  · exact h2.off g3 (by decide) i e d
  · exact h3.off g1 (by decide) i e d
  · exact h3.off g2 (by decide) i e d
  · exact hk i e d
theorem Grn3.fr (h : Grn3 w W p s k m xp xs xk) (f : Fr T W W') (hT : ∀ i, inN p s k i → ¬ T i) (hN : ∀ i, w.heap.size ≤ i → i < W.heap.size → ¬ T i) : Grn3 w W' p s k m xp xs xk := by
  refine ⟨h.P.keep f (fun i e => ?_) (fun i e => hT i (Or.inl e)), h.S.keep f (fun i e => ?_) (fun i e => hT i (Or.inr (Or.inl e))), h.K.keep f (fun i e => ?_) (fun i e => hT i (Or.inr (Or.inr e)))⟩
  · rcases h.P.blk i e with d | d
    · exact hT i (Or.inl d)
    · exact hN i d (h.P.row.lt i e)
  · rcases h.S.blk i e with d | d
    · exact hT i (Or.inr (Or.inl d))
    · exact hN i d (h.S.row.lt i e)
  · rcases h.K.blk i e with d | d
    · exact hT i (Or.inr (Or.inr d))
    · exact hN i d (h.K.row.lt i e)
theorem Grn3.same (h : Grn3 w W p s k m xp xs xk) (f : Same W W') : Grn3 w W' p s k m xp xs xk := h.fr f (fun _ _ f => f) (fun _ _ _ f => f)
theorem Grn3.lens (h : Grn3 w W p s k m xp xs xk) : xp.n = p.n + 40 ∧ xs.n = s.n + 40 ∧ xk.n = k.n + 40 := ⟨h.P.n, h.S.n, h.K.n⟩
theorem hold_nil {F : Fam} {ao : Option Addr} {n b : Nat} (h : Hold W ao (rp F n m)) : Hold W ao (rp F n m ++ rp F 0 b) := by rw [rp_zero, List.append_nil]; exact h
/-- What looking at them finds. -/
theorem Grn3.look (h : Grn3 w W p s k m xp xs xk) (hm : m < 100) (lp : p.n ≤ 1048576) (ls : s.n ≤ 1048576) (lk : k.n ≤ 1048576) :
    (Calls Try.prog 20 #[nV xp xs xk, .int .i64 (p.n : Int), .int .i64 (s.n : Int), .int .i64 (k.n : Int), .int .u32 (m : Int)] W fun e w' => e = .returned (.bool true) ∧ Same W w') ∧
    (Calls Try.prog 20 #[nV p s k, .int .i64 (p.n : Int), .int .i64 (s.n : Int), .int .i64 (k.n : Int), .int .u32 (m : Int)] W fun e w' => e = .returned (.bool true) ∧ Same W w') := by
  obtain ⟨e1, e2, e3⟩ := h.lens
  exact ⟨marked_calls m hm W ⟨e1, h.P.row.hold⟩ ⟨e2, h.S.row.hold⟩ ⟨e3, h.K.row.hold⟩ (by omega) (by omega) (by omega),
    marked_calls m hm (bp := 0) (bs := 0) (bk := 0) W ⟨rfl, hold_nil h.P.old⟩ ⟨rfl, hold_nil h.S.old⟩ ⟨rfl, hold_nil h.K.old⟩ (by omega) (by omega) (by omega)⟩
theorem Own3.spoil (h : Own3 W p s k) (m : Nat) (hm : m < 100) : Calls Try.prog 9 #[nV p s k, .int .u32 (m : Nat)] W fun e w' => e = .returned (.tuple #[]) ∧ Mkd3 w' p s k m ∧ Fr (inN p s k) W w' := by
  obtain ⟨_, h1⟩ := h.P
  obtain ⟨_, h2⟩ := h.S
  obtain ⟨_, h3⟩ := h.K
  exact (spoil_calls m hm W h1 h2 h3 (by have := h.lp; omega) (by have := h.ls; omega) (by have := h.lk; omega)).mono fun e w' ⟨a, b, c, d, f⟩ => ⟨a, ⟨b, c, d⟩, f⟩
theorem Mkd3.grown (h : Mkd3 W p s k m) (hm : m < 100) (lp : p.n ≤ 1048576) (ls : s.n ≤ 1048576) (lk : k.n ≤ 1048576) : Calls Try.prog 19 #[nV p s k, .int .u32 (m : Nat)] W fun e w' => ∃ xp xs xk : Sl, e = .returned (nV xp xs xk) ∧ Grn3 W w' p s k m xp xs xk ∧ Fr (inN p s k) W w' :=
  (grown_calls m hm W h.P h.S h.K (by omega) (by omega) (by omega)).mono fun e w' ⟨x, y, z, a, b, c, d, f⟩ => ⟨x, y, z, a, ⟨b, c, d⟩, f⟩
end
set_option maxRecDepth 100000 in
set_option maxHeartbeats 4000000 in
theorem apart_true {p s k q t l : Sl} (w : World) (hA : Own3 w p s k) (hB : Own3 w q t l) (hp : ∀ i, p.blk = some i → ¬ q.blk = some i) (hs : ∀ i, s.blk = some i → ¬ t.blk = some i) (hk : ∀ i, k.blk = some i → ¬ l.blk = some i) :
    Calls Try.prog 10 #[nV p s k, nV q t l] w fun e w' => e = .returned (.bool true) ∧ Fr (fun i => inN p s k i ∨ inN q t l i) w w' := by
  have oAB := hA.off hB hp hs hk
  obtain ⟨V, hV⟩ : ∃ V, V = (w.alloc (.cells #[p.v, s.v, k.v] 26)).alloc (.cells #[q.v, t.v, l.v] 26) := ⟨_, rfl⟩
  have sx : Same w V := by rw [hV]; exact ((Fr.refl _ w).alloc _).alloc _
  have a0 : V.cell? ⟨w.heap.size, 0, none⟩ = some p.v := by rw [hV]; simp
  have a1 : V.cell? ⟨w.heap.size, 1, none⟩ = some s.v := by rw [hV]; simp
  have a2 : V.cell? ⟨w.heap.size, 2, none⟩ = some k.v := by rw [hV]; simp
  have b0 : V.cell? ⟨w.heap.size + 1, 0, none⟩ = some q.v := by rw [hV]; simp
  have b1 : V.cell? ⟨w.heap.size + 1, 1, none⟩ = some t.v := by rw [hV]; simp
  have b2 : V.cell? ⟨w.heap.size + 1, 2, none⟩ = some l.v := by rw [hV]; simp
  have ltA := hA.lt
  have ltB := hB.lt
  have n0 : ¬ (inN p s k w.heap.size ∨ inN q t l w.heap.size) := fun h => by
    rcases h with h | h
    · have := ltA _ h; omega
    · have := ltB _ h; omega
  have n1 : ¬ (inN p s k (w.heap.size + 1) ∨ inN q t l (w.heap.size + 1)) := fun h => by
    rcases h with h | h
    · have := ltA _ h; omega
    · have := ltB _ h; omega
  have HC : Hid (∀ W, Fr (fun i => inN p s k i ∨ inN q t l i) V W → W.cell? ⟨w.heap.size, 0, none⟩ = some p.v ∧ W.cell? ⟨w.heap.size, 1, none⟩ = some s.v ∧ W.cell? ⟨w.heap.size, 2, none⟩ = some k.v ∧ W.cell? ⟨w.heap.size + 1, 0, none⟩ = some q.v ∧ W.cell? ⟨w.heap.size + 1, 1, none⟩ = some t.v ∧ W.cell? ⟨w.heap.size + 1, 2, none⟩ = some l.v) := fun W f =>
    ⟨(f.cell (World.block_lt_of_cell? _ _ a0) n0).trans a0, (f.cell (World.block_lt_of_cell? _ _ a1) n0).trans a1, (f.cell (World.block_lt_of_cell? _ _ a2) n0).trans a2, (f.cell (World.block_lt_of_cell? _ _ b0) n1).trans b0, (f.cell (World.block_lt_of_cell? _ _ b1) n1).trans b1, (f.cell (World.block_lt_of_cell? _ _ b2) n1).trans b2⟩
  have hVs : w.heap.size ≤ V.heap.size := sx.size
  have HA : Hid (Own3 V p s k) := hA.fr sx (fun _ _ f => f)
  have HB : Hid (Own3 V q t l) := hB.fr sx (fun _ _ f => f)
  have HO : Hid (∀ i, inN p s k i → ¬ inN q t l i) := oAB
  have HLA : Hid (∀ i, inN p s k i → i < w.heap.size) := ltA
  have HLB : Hid (∀ i, inN q t l i → i < w.heap.size) := ltB
  have HX : Hid (w.heap.size ≤ V.heap.size) := hVs
  have HLL : Hid (p.n ≤ 1048576 ∧ s.n ≤ 1048576 ∧ k.n ≤ 1048576 ∧ q.n ≤ 1048576 ∧ t.n ≤ 1048576 ∧ l.n ≤ 1048576) := ⟨hA.lp, hA.ls, hA.lk, hB.lp, hB.ls, hB.lk⟩
  clear hA hB hp hs hk oAB n0 n1 ltA ltB hVs
  obtain ⟨W1, hW1⟩ : ∃ W1, W1 = V := ⟨_, rfl⟩
  clear hW1 W1
  go_enter Try.func10, Try.ntmps10
  go_wp2_with fail
  rw [← hV]
  clear hV
  refine (HA.out.spoil 1 (by decide)).mono ?_
  rintro e W1 ⟨rfl, mA1, f1⟩
  have g1 : Fr (fun i => inN p s k i ∨ inN q t l i) V W1 := Fr.mono f1 (fun _ _ e => Or.inl e)
  have HB1 : Hid (Own3 W1 q t l) := HB.out.fr f1 (fun i hi hj => HO.out i hj hi)
  have MA1 : Hid (Mkd3 W1 p s k 1) := mA1
  clear a0 a1 a2 b0 b1 b2 mA1 f1
  obtain ⟨a0, a1, a2, b0, b1, b2⟩ := HC.out _ g1
  go_wp2_with fail
  refine (HB1.out.spoil 2 (by decide)).mono ?_
  rintro e W2 ⟨rfl, mB2, f2⟩
  have g2 : Fr (fun i => inN p s k i ∨ inN q t l i) V W2 := Fr.trans g1 f2 (fun _ _ e => Or.inr e)
  have MA2 : Hid (Mkd3 W2 p s k 1) := MA1.out.fr f2 HO.out
  have MB2 : Hid (Mkd3 W2 q t l 2) := mB2
  clear a0 a1 a2 b0 b1 b2 mB2 f2 MA1
  obtain ⟨a0, a1, a2, b0, b1, b2⟩ := HC.out _ g2
  go_wp2_with fail
  refine (MA2.out.grown (by decide) HLL.out.1 HLL.out.2.1 HLL.out.2.2.1).mono ?_
  rintro e W3 ⟨xp, xs, xk, rfl, gA3, f3⟩
  have g3 : Fr (fun i => inN p s k i ∨ inN q t l i) V W3 := Fr.trans g2 f3 (fun _ _ e => Or.inl e)
  have MB3 : Hid (Mkd3 W3 q t l 2) := MB2.out.fr f3 (fun i hi hj => HO.out i hj hi)
  have GA3 : Hid (Grn3 W2 W3 p s k 1 xp xs xk) := gA3
  have z23 : W2.heap.size ≤ W3.heap.size := f3.size
  clear a0 a1 a2 b0 b1 b2 gA3 f3 MB2 MA2
  obtain ⟨Y, hY⟩ : ∃ Y, Y = W3.alloc (.cells #[.slice xp.ao xp.n xp.c, .slice xs.ao xs.n xs.c, .slice xk.ao xk.n xk.c] 26) := ⟨_, rfl⟩
  have sY : Same W3 Y := by rw [hY]; exact (Fr.refl _ W3).alloc _
  have x0 : Y.cell? ⟨W3.heap.size, 0, none⟩ = some xp.v := by rw [hY]; simp
  have x1 : Y.cell? ⟨W3.heap.size, 1, none⟩ = some xs.v := by rw [hY]; simp
  have x2 : Y.cell? ⟨W3.heap.size, 2, none⟩ = some xk.v := by rw [hY]; simp
  have g4 : Fr (fun i => inN p s k i ∨ inN q t l i) V Y := Fr.trans g3 sY (fun _ _ f => f.elim)
  have MB4 : Hid (Mkd3 Y q t l 2) := MB3.out.fr sY (fun _ _ f => f)
  have GA4 : Hid (Grn3 W2 Y p s k 1 xp xs xk) := GA3.out.same sY
  have z3 : w.heap.size ≤ W3.heap.size := Nat.le_trans HX.out g3.size
  have z2 : w.heap.size ≤ W2.heap.size := Nat.le_trans HX.out g2.size
  have nx : ¬ (inN q t l W3.heap.size) := fun h => by have := HLB.out _ h; omega
  have HXC : Hid (∀ W, Fr (inN q t l) Y W → W.cell? ⟨W3.heap.size, 0, none⟩ = some xp.v ∧ W.cell? ⟨W3.heap.size, 1, none⟩ = some xs.v ∧ W.cell? ⟨W3.heap.size, 2, none⟩ = some xk.v) := fun W f => ⟨(f.cell (World.block_lt_of_cell? _ _ x0) nx).trans x0, (f.cell (World.block_lt_of_cell? _ _ x1) nx).trans x1, (f.cell (World.block_lt_of_cell? _ _ x2) nx).trans x2⟩
  clear MB3 GA3 nx z3
  obtain ⟨a0, a1, a2, b0, b1, b2⟩ := HC.out _ g4
  rw [hY] at a0 a1 a2 b0 b1 b2
  go_wp2_with fail
  rw [← hY] at a0 a1 a2 b0 b1 b2 ⊢
  clear hY
  refine (MB4.out.grown (by decide) HLL.out.2.2.2.1 HLL.out.2.2.2.2.1 HLL.out.2.2.2.2.2).mono ?_
  rintro e W5 ⟨yq, yt, yl, rfl, gB5, f5⟩
  have g5 : Fr (fun i => inN p s k i ∨ inN q t l i) V W5 := Fr.trans g4 f5 (fun _ _ e => Or.inr e)
  have GA5 : Hid (Grn3 W2 W5 p s k 1 xp xs xk) := GA4.out.fr f5 HO.out (fun i hi _ e => by have := HLB.out i e; omega)
  have GB5 : Hid (Grn3 Y W5 q t l 2 yq yt yl) := gB5
  obtain ⟨x0, x1, x2⟩ := HXC.out _ f5
  clear a0 a1 a2 b0 b1 b2 gB5 f5 MB4 GA4
  obtain ⟨Z, hZ⟩ : ∃ Z, Z = W5.alloc (.cells #[.slice yq.ao yq.n yq.c, .slice yt.ao yt.n yt.c, .slice yl.ao yl.n yl.c] 26) := ⟨_, rfl⟩
  have sZ : Same W5 Z := by rw [hZ]; exact (Fr.refl _ W5).alloc _
  have y0 : Z.cell? ⟨W5.heap.size, 0, none⟩ = some yq.v := by rw [hZ]; simp
  have y1 : Z.cell? ⟨W5.heap.size, 1, none⟩ = some yt.v := by rw [hZ]; simp
  have y2 : Z.cell? ⟨W5.heap.size, 2, none⟩ = some yl.v := by rw [hZ]; simp
  have g6 : Fr (fun i => inN p s k i ∨ inN q t l i) V Z := Fr.trans g5 sZ (fun _ _ f => f.elim)
  have GA6 : Hid (Grn3 W2 Z p s k 1 xp xs xk) := GA5.out.same sZ
  have GB6 : Hid (Grn3 Y Z q t l 2 yq yt yl) := GB5.out.same sZ
  have HZC : Hid (∀ W, Same Z W → (W.cell? ⟨w.heap.size, 0, none⟩ = some p.v ∧ W.cell? ⟨w.heap.size, 1, none⟩ = some s.v ∧ W.cell? ⟨w.heap.size, 2, none⟩ = some k.v ∧ W.cell? ⟨w.heap.size + 1, 0, none⟩ = some q.v ∧ W.cell? ⟨w.heap.size + 1, 1, none⟩ = some t.v ∧ W.cell? ⟨w.heap.size + 1, 2, none⟩ = some l.v) ∧ (W.cell? ⟨W3.heap.size, 0, none⟩ = some xp.v ∧ W.cell? ⟨W3.heap.size, 1, none⟩ = some xs.v ∧ W.cell? ⟨W3.heap.size, 2, none⟩ = some xk.v) ∧ W.cell? ⟨W5.heap.size, 0, none⟩ = some yq.v ∧ W.cell? ⟨W5.heap.size, 1, none⟩ = some yt.v ∧ W.cell? ⟨W5.heap.size, 2, none⟩ = some yl.v) := fun W f =>
    ⟨HC.out _ (Fr.trans g6 f (fun _ _ e => e.elim)), ⟨(sZ.trans f).keep x0, (sZ.trans f).keep x1, (sZ.trans f).keep x2⟩, f.keep y0, f.keep y1, f.keep y2⟩
  have HMA : Hid (∀ W, Same Z W → Grn3 W2 W p s k 1 xp xs xk) := fun W f => GA6.out.same f
  have HMB : Hid (∀ W, Same Z W → Grn3 Y W q t l 2 yq yt yl) := fun W f => GB6.out.same f
  clear x0 x1 x2 y0 y1 y2 GA5 GB5 GA6 GB6
  obtain ⟨⟨a0, a1, a2, b0, b1, b2⟩, ⟨x0, x1, x2⟩, y0, y1, y2⟩ := HZC.out _ (Fr.refl _ Z)
  rw [hZ] at a0 a1 a2 b0 b1 b2 x0 x1 x2 y0 y1 y2
  go_wp2_with fail
  rw [← hZ]
  clear hZ a0 a1 a2 b0 b1 b2 x0 x1 x2 y0 y1 y2
  refine ((HMA.out _ (Fr.refl _ Z)).look (by decide) HLL.out.1 HLL.out.2.1 HLL.out.2.2.1).1.mono ?_
  rintro e Z1 ⟨rfl, s1⟩
  obtain ⟨⟨a0, a1, a2, b0, b1, b2⟩, ⟨x0, x1, x2⟩, y0, y1, y2⟩ := HZC.out _ s1
  go_wp2_with fail
  clear a0 a1 a2 b0 b1 b2 x0 x1 x2 y0 y1 y2
  refine ((HMB.out _ s1).look (by decide) HLL.out.2.2.2.1 HLL.out.2.2.2.2.1 HLL.out.2.2.2.2.2).1.mono ?_
  rintro e Z2 ⟨rfl, s2⟩
  obtain ⟨⟨a0, a1, a2, b0, b1, b2⟩, ⟨x0, x1, x2⟩, y0, y1, y2⟩ := HZC.out _ (s1.trans s2)
  go_wp2_with fail
  clear a0 a1 a2 b0 b1 b2 x0 x1 x2 y0 y1 y2
  refine ((HMA.out _ (s1.trans s2)).look (by decide) HLL.out.1 HLL.out.2.1 HLL.out.2.2.1).2.mono ?_
  rintro e Z3 ⟨rfl, s3⟩
  obtain ⟨⟨a0, a1, a2, b0, b1, b2⟩, ⟨x0, x1, x2⟩, y0, y1, y2⟩ := HZC.out _ (s1.trans (s2.trans s3))
  go_wp2_with fail
  clear a0 a1 a2 b0 b1 b2 x0 x1 x2 y0 y1 y2
  refine ((HMB.out _ (s1.trans (s2.trans s3))).look (by decide) HLL.out.2.2.2.1 HLL.out.2.2.2.2.1 HLL.out.2.2.2.2.2).2.mono ?_
  rintro e Z4 ⟨rfl, s4⟩
  go_wp2_with fail
  go_ret
  exact ⟨rfl, Fr.trans (Fr.mono sx (fun _ _ f => f.elim)) (Fr.trans g6 (s1.trans (s2.trans (s3.trans s4))) (fun _ _ f => f.elim)) (fun _ _ e => e)⟩
end Go.Proofs.Ytjlbkagkmcelgaa
namespace Go.Proofs.Ytjlbkagkmcelgaa
open Go.RowKit Go.Maps

def mkP : ByteArray × ByteArray := (⟨#[109, 97, 114, 107]⟩, ⟨#[]⟩)
def mkT : ByteArray := ⟨#[109, 97, 114, 107]⟩
def mkQ : Kid := ⟨77, List.replicate 32 0⟩
theorem pcells_mk (l : List (ByteArray × ByteArray)) : pcells l ++ [.string ⟨#[109, 97, 114, 107]⟩, .string ⟨#[]⟩] = pcells (l ++ [mkP]) := by rw [pcells_app]; rfl
theorem scells_mk (l : List ByteArray) : scells l ++ [.string ⟨#[109, 97, 114, 107]⟩] = scells (l ++ [mkT]) := by rw [scells_app]; rfl
theorem kcells_mk (l : List Kid) : kcellsL l ++ [.int .u32 77, .int .u8 0, .int .u8 0, .int .u8 0, .int .u8 0, .int .u8 0, .int .u8 0, .int .u8 0, .int .u8 0, .int .u8 0, .int .u8 0, .int .u8 0, .int .u8 0, .int .u8 0, .int .u8 0, .int .u8 0, .int .u8 0, .int .u8 0, .int .u8 0, .int .u8 0, .int .u8 0, .int .u8 0, .int .u8 0, .int .u8 0, .int .u8 0, .int .u8 0, .int .u8 0, .int .u8 0, .int .u8 0, .int .u8 0, .int .u8 0, .int .u8 0, .int .u8 0] = kcellsL (l ++ [mkQ]) := by rw [kcellsL_app]; rfl
/-- While marks are laid: the node that came in, what goes out, the copy's box, its rows. -/
structure LN (w W : World) (mb : Nat) (r : Nr) (N : Nd) (xp xs xk : Sl) (cp cs ck : List Value) : Prop where
  hn : W.heap[w.heap.size]? = some (.cells #[.slice r.pa N.ps.length r.cp, .slice r.sa N.ss.length r.cs, .slice r.ka N.ks.length r.ck] 26 (0, 0))
  hr : W.heap[w.heap.size + 1]? = some (.cells #[.slice none 0 0, .slice none 0 0, .slice none 0 0] 26 (0, 0))
  hm : W.heap[mb]? = some (nodeC xp xs xk)
  P : RX FP W xp cp
  S : RX FS W xs cs
  K : RX FK W xk ck
  gp : ∀ i, xp.blk = some i → w.heap.size ≤ i
  gs : ∀ i, xs.blk = some i → w.heap.size ≤ i
  gk : ∀ i, xk.blk = some i → w.heap.size ≤ i
  sm : Same w W
  bm : w.heap.size + 2 ≤ mb
section
variable {w W W' : World} {mb : Nat} {r : Nr} {N : Nd} {xp xs xk : Sl} {cp cs ck : List Value}
theorem LN.same (h : LN w W mb r N xp xs xk cp cs ck) (t : Same W W') : LN w W' mb r N xp xs xk cp cs ck :=
  ⟨(t.block _ (lt_of_heap h.hn) (fun f => f)).trans h.hn, (t.block _ (lt_of_heap h.hr) (fun f => f)).trans h.hr, (t.block _ (lt_of_heap h.hm) (fun f => f)).trans h.hm, h.P.fr t (fun _ _ f => f), h.S.fr t (fun _ _ f => f), h.K.fr t (fun _ _ f => f), h.gp, h.gs, h.gk, h.sm.trans t, h.bm⟩
theorem LN.box (h : LN w W mb r N xp xs xk cp cs ck) : (W.cell? ⟨mb, 0, none⟩ = some xp.v ∧ W.cell? ⟨mb, 1, none⟩ = some xs.v ∧ W.cell? ⟨mb, 2, none⟩ = some xk.v) ∧ W.frozen? ⟨mb, 0, none⟩ = false ∧ W.frozen? ⟨mb, 1, none⟩ = false ∧ W.frozen? ⟨mb, 2, none⟩ = false :=
  ⟨⟨(cell_of_row _ _ _ _ _ _ h.hm).trans rfl, (cell_of_row _ _ _ _ _ _ h.hm).trans rfl, (cell_of_row _ _ _ _ _ _ h.hm).trans rfl⟩, frozen_of_row W _ 0 _ _ h.hm, frozen_of_row W _ 1 _ _ h.hm, frozen_of_row W _ 2 _ _ h.hm⟩
theorem LN.nbox (h : LN w W mb r N xp xs xk cp cs ck) : W.cell? ⟨w.heap.size, 0, none⟩ = some (.slice r.pa N.ps.length r.cp) ∧ W.cell? ⟨w.heap.size, 1, none⟩ = some (.slice r.sa N.ss.length r.cs) ∧ W.cell? ⟨w.heap.size, 2, none⟩ = some (.slice r.ka N.ks.length r.ck) :=
  ⟨(cell_of_row _ _ _ _ _ _ h.hn).trans rfl, (cell_of_row _ _ _ _ _ _ h.hn).trans rfl, (cell_of_row _ _ _ _ _ _ h.hn).trans rfl⟩
theorem LN.stepP (h : LN w W mb r N xp xs xk cp cs ck) {g cap : Nat} {nw : List Value} (o2 : RX FP W' ⟨some ⟨g, 0, none⟩, xp.n + 1, cap⟩ (cp ++ nw)) (gr : W.grownBy W' xp.blk) (at2 : xp.blk = some g ∨ g = W.heap.size) :
    LN w (W'.setCell ⟨mb, 0, none⟩ (.slice (some ⟨g, 0, none⟩) (xp.n + 1) cap)) mb r N ⟨some ⟨g, 0, none⟩, xp.n + 1, cap⟩ xs xk (cp ++ nw) cs ck ∧ (W'.cell? ⟨mb, 0, none⟩ = some xp.v ∧ W'.cell? ⟨mb, 1, none⟩ = some xs.v ∧ W'.cell? ⟨mb, 2, none⟩ = some xk.v) ∧ W'.frozen? ⟨mb, 0, none⟩ = false := by
  have hsz := h.sm.size
  have nm : xp.blk ≠ some mb := h.P.ne h.hm (by decide)
  have f1 : Fr (fun i => xp.blk = some i) W W' := Fr.grown (Fr.refl _ _) gr (fun j e _ => e)
  have hm' := (f1.block _ (lt_of_heap h.hm) nm).trans h.hm
  have f2 : Fr (fun i => i = mb) W' (W'.setCell ⟨mb, 0, none⟩ (.slice (some ⟨g, 0, none⟩) (xp.n + 1) cap)) := (Fr.refl (fun i => i = mb) W').setCell (p := ⟨mb, 0, none⟩) (fun _ => rfl) _
  have fT : Fr (fun i => xp.blk = some i ∨ i = mb) W (W'.setCell ⟨mb, 0, none⟩ (.slice (some ⟨g, 0, none⟩) (xp.n + 1) cap)) := Fr.trans (Fr.mono f1 (fun _ _ e => Or.inl e)) f2 (fun _ _ e => Or.inr e)
  have g2 : RX FP (W'.setCell ⟨mb, 0, none⟩ (.slice (some ⟨g, 0, none⟩) (xp.n + 1) cap)) ⟨some ⟨g, 0, none⟩, xp.n + 1, cap⟩ (cp ++ nw) := o2.fr f2 (fun i hi e => o2.ne hm' (by decide) (by rw [← e]; exact hi))
  have kS : RX FS (W'.setCell ⟨mb, 0, none⟩ (.slice (some ⟨g, 0, none⟩) (xp.n + 1) cap)) xs cs := h.S.fr fT (fun i hi e => by
    rcases e with e | e
    · exact h.S.off h.P (by decide) i hi e
    · exact h.S.ne h.hm (by decide) (by rw [← e]; exact hi))
  have kK : RX FK (W'.setCell ⟨mb, 0, none⟩ (.slice (some ⟨g, 0, none⟩) (xp.n + 1) cap)) xk ck := h.K.fr fT (fun i hi e => by
    rcases e with e | e
    · exact h.K.off h.P (by decide) i hi e
    · exact h.K.ne h.hm (by decide) (by rw [← e]; exact hi))
  have bm := h.bm
  refine ⟨⟨(fT.block _ (lt_of_heap h.hn) (fun e => ?_)).trans h.hn, (fT.block _ (lt_of_heap h.hr) (fun e => ?_)).trans h.hr, heap_setCell_same W' mb 0 _ _ _ hm', g2, kS, kK, ?_, h.gs, h.gk, Fr.trans h.sm fT (fun i hi e => ?_), h.bm⟩, ⟨(cell_of_row _ _ _ _ _ _ hm').trans rfl, (cell_of_row _ _ _ _ _ _ hm').trans rfl, (cell_of_row _ _ _ _ _ _ hm').trans rfl⟩, frozen_of_row W' _ 0 _ _ hm'⟩
  · rcases e with e | e
    · exact h.P.ne h.hn (by decide) e
    · omega
  · rcases e with e | e
    · exact h.P.ne h.hr (by decide) e
    · omega
  · intro i hi
    have e2 : g = i := by simpa [Sl.blk] using hi
    rcases at2 with e | e
    · have := h.gp g e
      omega
    · omega
  · rcases e with e | e
    · have := h.gp i e
      omega
    · omega
theorem LN.stepS (h : LN w W mb r N xp xs xk cp cs ck) {g cap : Nat} {nw : List Value} (o2 : RX FS W' ⟨some ⟨g, 0, none⟩, xs.n + 1, cap⟩ (cs ++ nw)) (gr : W.grownBy W' xs.blk) (at2 : xs.blk = some g ∨ g = W.heap.size) :
    LN w (W'.setCell ⟨mb, 1, none⟩ (.slice (some ⟨g, 0, none⟩) (xs.n + 1) cap)) mb r N xp ⟨some ⟨g, 0, none⟩, xs.n + 1, cap⟩ xk cp (cs ++ nw) ck ∧ (W'.cell? ⟨mb, 0, none⟩ = some xp.v ∧ W'.cell? ⟨mb, 1, none⟩ = some xs.v ∧ W'.cell? ⟨mb, 2, none⟩ = some xk.v) ∧ W'.frozen? ⟨mb, 1, none⟩ = false := by
  have hsz := h.sm.size
  have nm : xs.blk ≠ some mb := h.S.ne h.hm (by decide)
  have f1 : Fr (fun i => xs.blk = some i) W W' := Fr.grown (Fr.refl _ _) gr (fun j e _ => e)
  have hm' := (f1.block _ (lt_of_heap h.hm) nm).trans h.hm
  have f2 : Fr (fun i => i = mb) W' (W'.setCell ⟨mb, 1, none⟩ (.slice (some ⟨g, 0, none⟩) (xs.n + 1) cap)) := (Fr.refl (fun i => i = mb) W').setCell (p := ⟨mb, 1, none⟩) (fun _ => rfl) _
  have fT : Fr (fun i => xs.blk = some i ∨ i = mb) W (W'.setCell ⟨mb, 1, none⟩ (.slice (some ⟨g, 0, none⟩) (xs.n + 1) cap)) := Fr.trans (Fr.mono f1 (fun _ _ e => Or.inl e)) f2 (fun _ _ e => Or.inr e)
  have g2 : RX FS (W'.setCell ⟨mb, 1, none⟩ (.slice (some ⟨g, 0, none⟩) (xs.n + 1) cap)) ⟨some ⟨g, 0, none⟩, xs.n + 1, cap⟩ (cs ++ nw) := o2.fr f2 (fun i hi e => o2.ne hm' (by decide) (by rw [← e]; exact hi))
  have kP : RX FP (W'.setCell ⟨mb, 1, none⟩ (.slice (some ⟨g, 0, none⟩) (xs.n + 1) cap)) xp cp := h.P.fr fT (fun i hi e => by
    rcases e with e | e
    · exact h.P.off h.S (by decide) i hi e
    · exact h.P.ne h.hm (by decide) (by rw [← e]; exact hi))
  have kK : RX FK (W'.setCell ⟨mb, 1, none⟩ (.slice (some ⟨g, 0, none⟩) (xs.n + 1) cap)) xk ck := h.K.fr fT (fun i hi e => by
    rcases e with e | e
    · exact h.K.off h.S (by decide) i hi e
    · exact h.K.ne h.hm (by decide) (by rw [← e]; exact hi))
  have bm := h.bm
  refine ⟨⟨(fT.block _ (lt_of_heap h.hn) (fun e => ?_)).trans h.hn, (fT.block _ (lt_of_heap h.hr) (fun e => ?_)).trans h.hr, heap_setCell_same W' mb 1 _ _ _ hm', kP, g2, kK, h.gp, ?_, h.gk, Fr.trans h.sm fT (fun i hi e => ?_), h.bm⟩, ⟨(cell_of_row _ _ _ _ _ _ hm').trans rfl, (cell_of_row _ _ _ _ _ _ hm').trans rfl, (cell_of_row _ _ _ _ _ _ hm').trans rfl⟩, frozen_of_row W' _ 1 _ _ hm'⟩
  · rcases e with e | e
    · exact h.S.ne h.hn (by decide) e
    · omega
  · rcases e with e | e
    · exact h.S.ne h.hr (by decide) e
    · omega
  · intro i hi
    have e2 : g = i := by simpa [Sl.blk] using hi
    rcases at2 with e | e
    · have := h.gs g e
      omega
    · omega
  · rcases e with e | e
    · have := h.gs i e
      omega
    · omega
theorem LN.stepK (h : LN w W mb r N xp xs xk cp cs ck) {g cap : Nat} {nw : List Value} (o2 : RX FK W' ⟨some ⟨g, 0, none⟩, xk.n + 1, cap⟩ (ck ++ nw)) (gr : W.grownBy W' xk.blk) (at2 : xk.blk = some g ∨ g = W.heap.size) :
    LN w (W'.setCell ⟨mb, 2, none⟩ (.slice (some ⟨g, 0, none⟩) (xk.n + 1) cap)) mb r N xp xs ⟨some ⟨g, 0, none⟩, xk.n + 1, cap⟩ cp cs (ck ++ nw) ∧ (W'.cell? ⟨mb, 0, none⟩ = some xp.v ∧ W'.cell? ⟨mb, 1, none⟩ = some xs.v ∧ W'.cell? ⟨mb, 2, none⟩ = some xk.v) ∧ W'.frozen? ⟨mb, 2, none⟩ = false := by
  have hsz := h.sm.size
  have nm : xk.blk ≠ some mb := h.K.ne h.hm (by decide)
  have f1 : Fr (fun i => xk.blk = some i) W W' := Fr.grown (Fr.refl _ _) gr (fun j e _ => e)
  have hm' := (f1.block _ (lt_of_heap h.hm) nm).trans h.hm
  have f2 : Fr (fun i => i = mb) W' (W'.setCell ⟨mb, 2, none⟩ (.slice (some ⟨g, 0, none⟩) (xk.n + 1) cap)) := (Fr.refl (fun i => i = mb) W').setCell (p := ⟨mb, 2, none⟩) (fun _ => rfl) _
  have fT : Fr (fun i => xk.blk = some i ∨ i = mb) W (W'.setCell ⟨mb, 2, none⟩ (.slice (some ⟨g, 0, none⟩) (xk.n + 1) cap)) := Fr.trans (Fr.mono f1 (fun _ _ e => Or.inl e)) f2 (fun _ _ e => Or.inr e)
  have g2 : RX FK (W'.setCell ⟨mb, 2, none⟩ (.slice (some ⟨g, 0, none⟩) (xk.n + 1) cap)) ⟨some ⟨g, 0, none⟩, xk.n + 1, cap⟩ (ck ++ nw) := o2.fr f2 (fun i hi e => o2.ne hm' (by decide) (by rw [← e]; exact hi))
  have kP : RX FP (W'.setCell ⟨mb, 2, none⟩ (.slice (some ⟨g, 0, none⟩) (xk.n + 1) cap)) xp cp := h.P.fr fT (fun i hi e => by
    rcases e with e | e
    · exact h.P.off h.K (by decide) i hi e
    · exact h.P.ne h.hm (by decide) (by rw [← e]; exact hi))
  have kS : RX FS (W'.setCell ⟨mb, 2, none⟩ (.slice (some ⟨g, 0, none⟩) (xk.n + 1) cap)) xs cs := h.S.fr fT (fun i hi e => by
    rcases e with e | e
    · exact h.S.off h.K (by decide) i hi e
    · exact h.S.ne h.hm (by decide) (by rw [← e]; exact hi))
  have bm := h.bm
  refine ⟨⟨(fT.block _ (lt_of_heap h.hn) (fun e => ?_)).trans h.hn, (fT.block _ (lt_of_heap h.hr) (fun e => ?_)).trans h.hr, heap_setCell_same W' mb 2 _ _ _ hm', kP, kS, g2, h.gp, h.gs, ?_, Fr.trans h.sm fT (fun i hi e => ?_), h.bm⟩, ⟨(cell_of_row _ _ _ _ _ _ hm').trans rfl, (cell_of_row _ _ _ _ _ _ hm').trans rfl, (cell_of_row _ _ _ _ _ _ hm').trans rfl⟩, frozen_of_row W' _ 2 _ _ hm'⟩
  · rcases e with e | e
    · exact h.K.ne h.hn (by decide) e
    · omega
  · rcases e with e | e
    · exact h.K.ne h.hr (by decide) e
    · omega
  · intro i hi
    have e2 : g = i := by simpa [Sl.blk] using hi
    rcases at2 with e | e
    · have := h.gk g e
      omega
    · omega
  · rcases e with e | e
    · have := h.gk i e
      omega
    · omega
theorem own_fewer {B sz n c : Nat} {e : TypeId} {a : Option Addr} {xs ys : List Value} (h : W.ownsRow B e sz (.slice a (n + 1) c) (n + 1) (xs ++ ys)) (hx : xs.length = n * sz) : W.ownsRow B e sz (.slice a n c) n xs := by
  obtain ⟨hl, ⟨hv, h0⟩ | ⟨g, c2, cur, hv, hb, hh, hnc, hcm, hcs, htk⟩⟩ := h
  · omega
  · injection hv with e1 _ e3
    subst e1 e3
    refine ⟨hx, Or.inr ⟨g, c, cur, rfl, hb, hh, by omega, hcm, hcs, ?_⟩⟩
    have := congrArg (List.take (n * sz)) htk
    rw [List.take_take, Nat.min_eq_left (Nat.mul_le_mul_right _ (Nat.le_succ n)), ← hx, List.take_left] at this
    rw [hx] at this
    exact this
end
theorem own_up {W : World} {B sz n c g : Nat} {e : TypeId} {xs : List Value} (h : W.ownsRow 0 e sz (.slice (some ⟨g, 0, none⟩) n c) n xs) (hg : B ≤ g) : W.ownsRow B e sz (.slice (some ⟨g, 0, none⟩) n c) n xs := by
  obtain ⟨hl, ⟨hv, h0⟩ | ⟨g2, c2, cur, hv, hb, hh, hnc, hcm, hcs, htk⟩⟩ := h
  · cases hv
  · refine ⟨hl, Or.inr ⟨g2, c2, cur, hv, ?_, hh, hnc, hcm, hcs, htk⟩⟩
    injection hv with e1
    injection e1 with e1
    injection e1 with e1
    omega
/-- A node that was lent, at rows of its own. -/
structure LentN (w : World) (B : Nat) (xp xs xk : Sl) (N : Nd) : Prop where
  oP : w.ownsRow B 33 2 (.slice xp.ao (N.ps.length + 1) xp.c) (N.ps.length + 1) (pcells (N.ps ++ [mkP]))
  oS : w.ownsRow B 9 1 (.slice xs.ao (N.ss.length + 1) xs.c) (N.ss.length + 1) (scells (N.ss ++ [mkT]))
  oK : w.ownsRow B 37 33 (.slice xk.ao (N.ks.length + 1) xk.c) (N.ks.length + 1) (kcellsL (N.ks ++ [mkQ]))
  np : xp.n = N.ps.length
  ns : xs.n = N.ss.length
  nk : xk.n = N.ks.length
set_option maxRecDepth 100000 in
set_option maxHeartbeats 4000000 in
theorem lent_calls {r : Nr} {N : Nd} (w : World) (h : NdIn w r N) (h1 : N.ps.length ≤ 1048576) (h2 : N.ss.length ≤ 1048576) (h3 : N.ks.length ≤ 1048576) : Calls Try.prog 4 #[ndV r N] w fun e w' => ∃ xp xs xk : Sl, e = .returned (nV xp xs xk) ∧ LentN w' w.heap.size xp xs xk N ∧ Same w w' := by
  obtain ⟨V, hV⟩ : ∃ V, V = (w.alloc (.cells #[.slice r.pa N.ps.length r.cp, .slice r.sa N.ss.length r.cs, .slice r.ka N.ks.length r.ck] 26)).alloc (.cells #[.slice none 0 0, .slice none 0 0, .slice none 0 0] 26) := ⟨_, rfl⟩
  have sx : Same w V := by rw [hV]; exact ((Fr.refl _ w).alloc _).alloc _
  have hn : V.heap[w.heap.size]? = some (.cells #[.slice r.pa N.ps.length r.cp, .slice r.sa N.ss.length r.cs, .slice r.ka N.ks.length r.ck] 26 (0, 0)) := by rw [hV]; exact (heap_alloc_old _ _ (by simp)).trans (heap_alloc_new w _)
  have hr : V.heap[w.heap.size + 1]? = some (.cells #[.slice none 0 0, .slice none 0 0, .slice none 0 0] 26 (0, 0)) := by rw [hV]; exact heap_alloc2_new w _ _
  have hVs : V.heap.size = w.heap.size + 2 := by rw [hV]; simp
  have HC : Hid (∀ W, Same w W → Calls Try.prog 12 #[ndV r N] W fun e w' => ∃ pa cp sa cs ka ck, e = .returned (nodeV pa N.ps.length cp sa N.ss.length cs ka N.ks.length ck) ∧ w'.ownsRow W.heap.size 33 2 (.slice pa N.ps.length cp) N.ps.length (pcells N.ps) ∧ w'.ownsRow W.heap.size 9 1 (.slice sa N.ss.length cs) N.ss.length (scells N.ss) ∧ w'.ownsRow W.heap.size 37 33 (.slice ka N.ks.length ck) N.ks.length (kcellsL N.ks) ∧ Same W w') := fun W s => rcopy_calls W (h.same s) h1 h2 h3
  have a0 : V.cell? ⟨w.heap.size, 0, none⟩ = some (.slice r.pa N.ps.length r.cp) := (cell_of_row _ _ _ _ _ _ hn).trans rfl
  have a1 : V.cell? ⟨w.heap.size, 1, none⟩ = some (.slice r.sa N.ss.length r.cs) := (cell_of_row _ _ _ _ _ _ hn).trans rfl
  have a2 : V.cell? ⟨w.heap.size, 2, none⟩ = some (.slice r.ka N.ks.length r.ck) := (cell_of_row _ _ _ _ _ _ hn).trans rfl
  have HN : Hid (V.heap[w.heap.size]? = some (.cells #[.slice r.pa N.ps.length r.cp, .slice r.sa N.ss.length r.cs, .slice r.ka N.ks.length r.ck] 26 (0, 0))) := hn
  have HR : Hid (V.heap[w.heap.size + 1]? = some (.cells #[.slice none 0 0, .slice none 0 0, .slice none 0 0] 26 (0, 0))) := hr
  have HVS : Hid (V.heap.size = w.heap.size + 2) := hVs
  have HLL : Hid (N.ps.length ≤ 1048576 ∧ N.ss.length ≤ 1048576 ∧ N.ks.length ≤ 1048576) := ⟨h1, h2, h3⟩
  obtain ⟨i0P, hiP, hz0P, hz1P, hz2P⟩ := info_parts Try.infPair
  obtain ⟨i0S, hiS, hz0S, hz1S, hz2S⟩ := info_parts Try.infStr
  obtain ⟨i0K, hiK, hz0K, hz1K, hz2K⟩ := info_parts Try.infKid
  clear hn hr hVs h
  go_enter Try.func4, Try.ntmps4
  go_wp2_with fail
  rw [← hV]
  clear hV
  refine (HC.out _ sx).mono ?_
  rintro e W1 ⟨pa, cp, sa, cs, ka, ck, rfl, oP, oS, oK, s1⟩
  have L0 : LN w (W1.alloc (.cells #[.slice pa N.ps.length cp, .slice sa N.ss.length cs, .slice ka N.ks.length ck] 26)) W1.heap.size r N ⟨pa, N.ps.length, cp⟩ ⟨sa, N.ss.length, cs⟩ ⟨ka, N.ks.length, ck⟩ (pcells N.ps) (scells N.ss) (kcellsL N.ks) := by
    have sA : Same W1 (W1.alloc (.cells #[.slice pa N.ps.length cp, .slice sa N.ss.length cs, .slice ka N.ks.length ck] 26)) := (Fr.refl _ W1).alloc _
    have z1 := s1.size
    have z2 := HVS.out
    refine ⟨((s1.trans sA).block _ (lt_of_heap HN.out) (fun f => f)).trans HN.out, ((s1.trans sA).block _ (lt_of_heap HR.out) (fun f => f)).trans HR.out, heap_alloc_new W1 _, RX.fr (F := FP) (own_base oP (Nat.zero_le _)) sA (fun _ _ f => f), RX.fr (F := FS) (own_base oS (Nat.zero_le _)) sA (fun _ _ f => f), RX.fr (F := FK) (own_base oK (Nat.zero_le _)) sA (fun _ _ f => f), fun i hi => ?_, fun i hi => ?_, fun i hi => ?_, (sx.trans s1).trans sA, by omega⟩
    · have := oP.lt i (by rw [← Sl.own] at hi; exact hi); omega
    · have := oS.lt i (by rw [← Sl.own] at hi; exact hi); omega
    · have := oK.lt i (by rw [← Sl.own] at hi; exact hi); omega
  have HL0 : Hid (LN w ((W1.alloc (.cells #[.slice pa N.ps.length cp, .slice sa N.ss.length cs, .slice ka N.ks.length ck] 26)).alloc (.cells #[.string ⟨#[109, 97, 114, 107]⟩, .string ⟨#[]⟩] 33)) W1.heap.size r N ⟨pa, N.ps.length, cp⟩ ⟨sa, N.ss.length, cs⟩ ⟨ka, N.ks.length, ck⟩ (pcells N.ps) (scells N.ss) (kcellsL N.ks)) := L0.same ((Fr.refl _ _).alloc _)
  obtain ⟨⟨m0, m1, m2⟩, f0, f1, f2⟩ := L0.box
  simp only [Sl.v] at m0 m1 m2
  have xP := HL0.out.P
  have nP := World.news_of_block (show ((W1.alloc (.cells #[.slice pa N.ps.length cp, .slice sa N.ss.length cs, .slice ka N.ks.length ck] 26)).alloc (.cells #[.string ⟨#[109, 97, 114, 107]⟩, .string ⟨#[]⟩] 33)).heap[W1.heap.size + 1]? = _ from by have := heap_alloc_new (W1.alloc (.cells #[.slice pa N.ps.length cp, .slice sa N.ss.length cs, .slice ka N.ks.length ck] 26)) (.cells #[.string ⟨#[109, 97, 114, 107]⟩, .string ⟨#[]⟩] 33); simpa using this)
  have bP : N.ps.length + 1 ≤ 1099511627776 := by have := HLL.out.1; omega
  have bS : N.ss.length + 1 ≤ 1099511627776 := by have := HLL.out.2.1; omega
  have bK : N.ks.length + 1 ≤ 1099511627776 := by have := HLL.out.2.2; omega
  clear oP oS oK L0 h1 h2 h3 a0 a1 a2
  go_wp2_with (at_builtin; go_must (refine wpList_append_fam _ (by rfl) _ _ 22 (by rfl) (F := FP) (x := ⟨pa, N.ps.length, cp⟩) Try.underlying22 hiP hz0P hz1P hz2P (by decide) rfl (by rfl) xP ⟨W1.heap.size + 1, 0, none⟩ 1 (news := [.string ⟨#[109, 97, 114, 107]⟩, .string ⟨#[]⟩]) (by rfl) rfl nP (by simp [Value.oneCell']) bP ?_))
  intro g2 cap2 w2 q1 q2 q3 q4
  obtain ⟨L1, ⟨b0, b1, b2⟩, b3⟩ := HL0.out.stepP q1 q2 (q4.imp id (fun e => by rw [e]; simp))
  have HL1 : Hid (LN w (w2.setCell ⟨W1.heap.size, 0, none⟩ (.slice (some ⟨g2, 0, none⟩) (N.ps.length + 1) cap2)) W1.heap.size r N ⟨some ⟨g2, 0, none⟩, N.ps.length + 1, cap2⟩ ⟨sa, N.ss.length, cs⟩ ⟨ka, N.ks.length, ck⟩ (pcells N.ps ++ [.string ⟨#[109, 97, 114, 107]⟩, .string ⟨#[]⟩]) (scells N.ss) (kcellsL N.ks)) := L1
  simp only [Sl.v] at b0 b1 b2
  have HL2 : Hid (LN w ((w2.setCell ⟨W1.heap.size, 0, none⟩ (.slice (some ⟨g2, 0, none⟩) (N.ps.length + 1) cap2)).alloc (.cells #[.string ⟨#[109, 97, 114, 107]⟩] 9)) W1.heap.size r N ⟨some ⟨g2, 0, none⟩, N.ps.length + 1, cap2⟩ ⟨sa, N.ss.length, cs⟩ ⟨ka, N.ks.length, ck⟩ (pcells N.ps ++ [.string ⟨#[109, 97, 114, 107]⟩, .string ⟨#[]⟩]) (scells N.ss) (kcellsL N.ks)) := L1.same ((Fr.refl _ _).alloc _)
  have xS := HL2.out.S
  have nS := World.news_of_block (heap_put_new w2 ⟨W1.heap.size, 0, none⟩ (.slice (some ⟨g2, 0, none⟩) (N.ps.length + 1) cap2) (.cells #[.string ⟨#[109, 97, 114, 107]⟩] 9))
  obtain ⟨⟨m0b, m1b, m2b⟩, f0b, f1b, f2b⟩ := L1.box
  simp only [Sl.v] at m0b m1b m2b
  clear L1 q1 q2 q3 q4 HL0 xP nP m0 m1 m2 f0 f1 f2 HL1 m0b m1b m2b f0b f1b f2b
  go_wp2_with (at_builtin; go_must (refine wpList_append_fam _ (by rfl) _ _ 23 (by rfl) (F := FS) (x := ⟨sa, N.ss.length, cs⟩) Try.underlying23 hiS hz0S hz1S hz2S (by decide) rfl (by rfl) xS ⟨w2.heap.size, 0, none⟩ 1 (news := [.string ⟨#[109, 97, 114, 107]⟩]) (by rfl) rfl nS (by simp [Value.oneCell']) bS ?_))
  intro g3 cap3 w3 q1 q2 q3 q4
  obtain ⟨L1, ⟨c0, c1, c2⟩, c3⟩ := HL2.out.stepS q1 q2 (q4.imp id (fun e => by rw [e]; simp [World.setCell]))
  simp only [Sl.v] at c0 c1 c2
  have HL4 : Hid (LN w ((w3.setCell ⟨W1.heap.size, 1, none⟩ (.slice (some ⟨g3, 0, none⟩) (N.ss.length + 1) cap3)).alloc (.cells #[.int .u32 77, .int .u8 0, .int .u8 0, .int .u8 0, .int .u8 0, .int .u8 0, .int .u8 0, .int .u8 0, .int .u8 0, .int .u8 0, .int .u8 0, .int .u8 0, .int .u8 0, .int .u8 0, .int .u8 0, .int .u8 0, .int .u8 0, .int .u8 0, .int .u8 0, .int .u8 0, .int .u8 0, .int .u8 0, .int .u8 0, .int .u8 0, .int .u8 0, .int .u8 0, .int .u8 0, .int .u8 0, .int .u8 0, .int .u8 0, .int .u8 0, .int .u8 0, .int .u8 0] 37)) W1.heap.size r N ⟨some ⟨g2, 0, none⟩, N.ps.length + 1, cap2⟩ ⟨some ⟨g3, 0, none⟩, N.ss.length + 1, cap3⟩ ⟨ka, N.ks.length, ck⟩ (pcells N.ps ++ [.string ⟨#[109, 97, 114, 107]⟩, .string ⟨#[]⟩]) (scells N.ss ++ [.string ⟨#[109, 97, 114, 107]⟩]) (kcellsL N.ks)) := L1.same ((Fr.refl _ _).alloc _)
  have xK := HL4.out.K
  have nK := World.news_of_block (heap_put_new w3 ⟨W1.heap.size, 1, none⟩ (.slice (some ⟨g3, 0, none⟩) (N.ss.length + 1) cap3) (.cells #[.int .u32 77, .int .u8 0, .int .u8 0, .int .u8 0, .int .u8 0, .int .u8 0, .int .u8 0, .int .u8 0, .int .u8 0, .int .u8 0, .int .u8 0, .int .u8 0, .int .u8 0, .int .u8 0, .int .u8 0, .int .u8 0, .int .u8 0, .int .u8 0, .int .u8 0, .int .u8 0, .int .u8 0, .int .u8 0, .int .u8 0, .int .u8 0, .int .u8 0, .int .u8 0, .int .u8 0, .int .u8 0, .int .u8 0, .int .u8 0, .int .u8 0, .int .u8 0, .int .u8 0] 37))
  clear L1 q1 q2 q3 q4 HL2 xS nS b0 b1 b2 b3
  go_wp2_with (at_builtin; go_must (refine wpList_append_fam _ (by rfl) _ _ 24 (by rfl) (F := FK) (x := ⟨ka, N.ks.length, ck⟩) Try.underlying24 hiK hz0K hz1K hz2K (by decide) rfl (by rfl) xK ⟨w3.heap.size, 0, none⟩ 1 (news := [.int .u32 77, .int .u8 0, .int .u8 0, .int .u8 0, .int .u8 0, .int .u8 0, .int .u8 0, .int .u8 0, .int .u8 0, .int .u8 0, .int .u8 0, .int .u8 0, .int .u8 0, .int .u8 0, .int .u8 0, .int .u8 0, .int .u8 0, .int .u8 0, .int .u8 0, .int .u8 0, .int .u8 0, .int .u8 0, .int .u8 0, .int .u8 0, .int .u8 0, .int .u8 0, .int .u8 0, .int .u8 0, .int .u8 0, .int .u8 0, .int .u8 0, .int .u8 0, .int .u8 0]) (by rfl) rfl nK (by simp [Value.oneCell']) bK ?_))
  intro g4 cap4 w4 q1 q2 q3 q4
  obtain ⟨L1, ⟨d0, d1, d2⟩, d3⟩ := HL4.out.stepK q1 q2 (q4.imp id (fun e => by rw [e]; simp [World.setCell]))
  simp only [Sl.v] at d0 d1 d2
  have HL6 : Hid (LN w (w4.setCell ⟨W1.heap.size, 2, none⟩ (.slice (some ⟨g4, 0, none⟩) (N.ks.length + 1) cap4)) W1.heap.size r N ⟨some ⟨g2, 0, none⟩, N.ps.length + 1, cap2⟩ ⟨some ⟨g3, 0, none⟩, N.ss.length + 1, cap3⟩ ⟨some ⟨g4, 0, none⟩, N.ks.length + 1, cap4⟩ (pcells N.ps ++ [.string ⟨#[109, 97, 114, 107]⟩, .string ⟨#[]⟩]) (scells N.ss ++ [.string ⟨#[109, 97, 114, 107]⟩]) (kcellsL N.ks ++ [.int .u32 77, .int .u8 0, .int .u8 0, .int .u8 0, .int .u8 0, .int .u8 0, .int .u8 0, .int .u8 0, .int .u8 0, .int .u8 0, .int .u8 0, .int .u8 0, .int .u8 0, .int .u8 0, .int .u8 0, .int .u8 0, .int .u8 0, .int .u8 0, .int .u8 0, .int .u8 0, .int .u8 0, .int .u8 0, .int .u8 0, .int .u8 0, .int .u8 0, .int .u8 0, .int .u8 0, .int .u8 0, .int .u8 0, .int .u8 0, .int .u8 0, .int .u8 0, .int .u8 0])) := L1
  clear L1 q1 q2 q3 q4 HL4 xK nK c0 c1 c2 c3
  go_wp2_with fail
  obtain ⟨W, hW⟩ : ∃ W, W = w4.setCell ⟨W1.heap.size, 2, none⟩ (.slice (some ⟨g4, 0, none⟩) (N.ks.length + 1) cap4) := ⟨_, rfl⟩
  rw [← hW] at HL6 ⊢
  clear hW d0 d1 d2 d3
  obtain ⟨⟨d0, d1, d2⟩, _, _, _⟩ := HL6.out.box
  obtain ⟨b0, b1, b2⟩ := HL6.out.nbox
  simp only [Sl.v] at d0 d1 d2
  have gp : N.ps.length + 1 ≤ cap2 := (own_cap HL6.out.P).1
  have gs : N.ss.length + 1 ≤ cap3 := (own_cap HL6.out.S).1
  have gk : N.ks.length + 1 ≤ cap4 := (own_cap HL6.out.K).1
  have gp2 : (N.ps.length : Int) ≤ (cap2 : Int) := by omega
  have gs2 : (N.ss.length : Int) ≤ (cap3 : Int) := by omega
  have gk2 : (N.ks.length : Int) ≤ (cap4 : Int) := by omega
  have HB : Hid (∀ X, Same W X → (X.cell? ⟨W1.heap.size, 0, none⟩ = some (.slice (some ⟨g2, 0, none⟩) (N.ps.length + 1) cap2) ∧ X.cell? ⟨W1.heap.size, 1, none⟩ = some (.slice (some ⟨g3, 0, none⟩) (N.ss.length + 1) cap3) ∧ X.cell? ⟨W1.heap.size, 2, none⟩ = some (.slice (some ⟨g4, 0, none⟩) (N.ks.length + 1) cap4)) ∧ X.cell? ⟨w.heap.size, 0, none⟩ = some (.slice r.pa N.ps.length r.cp) ∧ X.cell? ⟨w.heap.size, 1, none⟩ = some (.slice r.sa N.ss.length r.cs) ∧ X.cell? ⟨w.heap.size, 2, none⟩ = some (.slice r.ka N.ks.length r.ck)) := fun X f => ⟨⟨f.keep d0, f.keep d1, f.keep d2⟩, f.keep b0, f.keep b1, f.keep b2⟩
  have d0' := HB.out _ (Fr.drew (Fr.refl _ W))
  refine wp_region_held_drew (S := fun X => (X.cell? ⟨W1.heap.size, 0, none⟩ = some (.slice (some ⟨g2, 0, none⟩) (N.ps.length + 1) cap2) ∧ X.cell? ⟨W1.heap.size, 1, none⟩ = some (.slice (some ⟨g3, 0, none⟩) (N.ss.length + 1) cap3) ∧ X.cell? ⟨W1.heap.size, 2, none⟩ = some (.slice (some ⟨g4, 0, none⟩) (N.ks.length + 1) cap4)) ∧ X.cell? ⟨w.heap.size, 0, none⟩ = some (.slice r.pa N.ps.length r.cp) ∧ X.cell? ⟨w.heap.size, 1, none⟩ = some (.slice r.sa N.ss.length r.cs) ∧ X.cell? ⟨w.heap.size, 2, none⟩ = some (.slice r.ka N.ks.length r.ck)) (by kernel_rfl) (d0') (fun hHeld => ?_)
  refine wpAnyH_take (i := 0) (oi := { dst := some 23, op := Op.fieldAddr 26 (Operand.tmp 3) 0, type := 0, pos := "law.go:17", after := #[], guard := none }) (v := .pointer (some ⟨W1.heap.size, 0, none⟩)) rfl (by kernel_rfl) (by kernel_rfl) (by kernel_rfl) (fun _ _ _ h => h) (Or.inl ⟨by rfl, fun w hSw => by (obtain ⟨⟨q0, q1, q2⟩, q3, q4, q5⟩ := hSw; go_simp)⟩) (by assumption) ?_
  try simp only [Act.put, List.setIfInBounds_toArray, List.set_cons_zero, List.set_cons_succ]
  refine wpAnyH_take (i := 1) (oi := { dst := some 24, op := Op.load 22 (Operand.tmp 23), type := 22, pos := "law.go:17", after := #[{ on := 0, ground := Ground.data }], guard := none }) (v := .slice (some ⟨g2, 0, none⟩) (N.ps.length + 1) cap2) rfl (by kernel_rfl) (by kernel_rfl) (by kernel_rfl) (fun _ _ _ h => h) (Or.inl ⟨by rfl, fun w hSw => by (obtain ⟨⟨q0, q1, q2⟩, q3, q4, q5⟩ := hSw; go_simp)⟩) (by assumption) ?_
  try simp only [Act.put, List.setIfInBounds_toArray, List.set_cons_zero, List.set_cons_succ]
  refine wpAnyH_take (i := 2) (oi := { dst := some 25, op := Op.fieldAddr 26 (Operand.tmp 1) 0, type := 0, pos := "law.go:17", after := #[], guard := none }) (v := .pointer (some ⟨w.heap.size, 0, none⟩)) rfl (by kernel_rfl) (by kernel_rfl) (by kernel_rfl) (fun _ _ _ h => h) (Or.inl ⟨by rfl, fun w hSw => by (obtain ⟨⟨q0, q1, q2⟩, q3, q4, q5⟩ := hSw; go_simp)⟩) (by assumption) ?_
  try simp only [Act.put, List.setIfInBounds_toArray, List.set_cons_zero, List.set_cons_succ]
  refine wpAnyH_take (i := 3) (oi := { dst := some 26, op := Op.load 22 (Operand.tmp 25), type := 22, pos := "law.go:17", after := #[{ on := 2, ground := Ground.data }], guard := none }) (v := .slice r.pa N.ps.length r.cp) rfl (by kernel_rfl) (by kernel_rfl) (by kernel_rfl) (fun _ _ _ h => h) (Or.inl ⟨by rfl, fun w hSw => by (obtain ⟨⟨q0, q1, q2⟩, q3, q4, q5⟩ := hSw; go_simp)⟩) (by assumption) ?_
  try simp only [Act.put, List.setIfInBounds_toArray, List.set_cons_zero, List.set_cons_succ]
  refine wpAnyH_take (i := 4) (oi := { dst := some 27, op := Op.call { callee := Callee.builtin Builtin.len, args := #[Operand.tmp 26], argTypes := #[22] }, type := 3, pos := "law.go:17", after := #[{ on := 3, ground := Ground.data }], guard := none }) (v := .int .i64 (N.ps.length : Int)) rfl (by kernel_rfl) (by kernel_rfl) (by kernel_rfl) (fun _ _ _ h => h) (Or.inl ⟨by rfl, fun w hSw => by (obtain ⟨⟨q0, q1, q2⟩, q3, q4, q5⟩ := hSw; go_simp)⟩) (by assumption) ?_
  try simp only [Act.put, List.setIfInBounds_toArray, List.set_cons_zero, List.set_cons_succ]
  refine wpAnyH_take (i := 5) (oi := { dst := some 28, op := Op.slice 22 (Operand.tmp 24) none (some (Operand.tmp 27)) none, type := 22, pos := "law.go:17", after := #[{ on := 1, ground := Ground.data }, { on := 4, ground := Ground.data }], guard := none }) (v := .slice (some ⟨g2, 0, none⟩) N.ps.length cap2) rfl (by kernel_rfl) (by kernel_rfl) (by kernel_rfl) (fun _ _ _ h => h) (Or.inl ⟨by rfl, fun w hSw => by (obtain ⟨⟨q0, q1, q2⟩, q3, q4, q5⟩ := hSw; go_simp)⟩) (by assumption) ?_
  try simp only [Act.put, List.setIfInBounds_toArray, List.set_cons_zero, List.set_cons_succ]
  refine wpAnyH_take (i := 6) (oi := { dst := some 29, op := Op.fieldAddr 26 (Operand.tmp 3) 1, type := 0, pos := "law.go:17", after := #[], guard := none }) (v := .pointer (some ⟨W1.heap.size, 1, none⟩)) rfl (by kernel_rfl) (by kernel_rfl) (by kernel_rfl) (fun _ _ _ h => h) (Or.inl ⟨by rfl, fun w hSw => by (obtain ⟨⟨q0, q1, q2⟩, q3, q4, q5⟩ := hSw; go_simp)⟩) (by assumption) ?_
  try simp only [Act.put, List.setIfInBounds_toArray, List.set_cons_zero, List.set_cons_succ]
  refine wpAnyH_take (i := 7) (oi := { dst := some 30, op := Op.load 23 (Operand.tmp 29), type := 23, pos := "law.go:17", after := #[{ on := 6, ground := Ground.data }], guard := none }) (v := .slice (some ⟨g3, 0, none⟩) (N.ss.length + 1) cap3) rfl (by kernel_rfl) (by kernel_rfl) (by kernel_rfl) (fun _ _ _ h => h) (Or.inl ⟨by rfl, fun w hSw => by (obtain ⟨⟨q0, q1, q2⟩, q3, q4, q5⟩ := hSw; go_simp)⟩) (by assumption) ?_
  try simp only [Act.put, List.setIfInBounds_toArray, List.set_cons_zero, List.set_cons_succ]
  refine wpAnyH_take (i := 8) (oi := { dst := some 31, op := Op.fieldAddr 26 (Operand.tmp 1) 1, type := 0, pos := "law.go:17", after := #[], guard := none }) (v := .pointer (some ⟨w.heap.size, 1, none⟩)) rfl (by kernel_rfl) (by kernel_rfl) (by kernel_rfl) (fun _ _ _ h => h) (Or.inl ⟨by rfl, fun w hSw => by (obtain ⟨⟨q0, q1, q2⟩, q3, q4, q5⟩ := hSw; go_simp)⟩) (by assumption) ?_
  try simp only [Act.put, List.setIfInBounds_toArray, List.set_cons_zero, List.set_cons_succ]
  refine wpAnyH_take (i := 9) (oi := { dst := some 32, op := Op.load 23 (Operand.tmp 31), type := 23, pos := "law.go:17", after := #[{ on := 8, ground := Ground.data }], guard := none }) (v := .slice r.sa N.ss.length r.cs) rfl (by kernel_rfl) (by kernel_rfl) (by kernel_rfl) (fun _ _ _ h => h) (Or.inl ⟨by rfl, fun w hSw => by (obtain ⟨⟨q0, q1, q2⟩, q3, q4, q5⟩ := hSw; go_simp)⟩) (by assumption) ?_
  try simp only [Act.put, List.setIfInBounds_toArray, List.set_cons_zero, List.set_cons_succ]
  refine wpAnyH_take (i := 10) (oi := { dst := some 33, op := Op.call { callee := Callee.builtin Builtin.len, args := #[Operand.tmp 32], argTypes := #[23] }, type := 3, pos := "law.go:17", after := #[{ on := 9, ground := Ground.data }], guard := none }) (v := .int .i64 (N.ss.length : Int)) rfl (by kernel_rfl) (by kernel_rfl) (by kernel_rfl) (fun _ _ _ h => h) (Or.inl ⟨by rfl, fun w hSw => by (obtain ⟨⟨q0, q1, q2⟩, q3, q4, q5⟩ := hSw; go_simp)⟩) (by assumption) ?_
  try simp only [Act.put, List.setIfInBounds_toArray, List.set_cons_zero, List.set_cons_succ]
  refine wpAnyH_take (i := 11) (oi := { dst := some 34, op := Op.slice 23 (Operand.tmp 30) none (some (Operand.tmp 33)) none, type := 23, pos := "law.go:17", after := #[{ on := 7, ground := Ground.data }, { on := 10, ground := Ground.data }], guard := none }) (v := .slice (some ⟨g3, 0, none⟩) N.ss.length cap3) rfl (by kernel_rfl) (by kernel_rfl) (by kernel_rfl) (fun _ _ _ h => h) (Or.inl ⟨by rfl, fun w hSw => by (obtain ⟨⟨q0, q1, q2⟩, q3, q4, q5⟩ := hSw; go_simp)⟩) (by assumption) ?_
  try simp only [Act.put, List.setIfInBounds_toArray, List.set_cons_zero, List.set_cons_succ]
  refine wpAnyH_take (i := 12) (oi := { dst := some 35, op := Op.fieldAddr 26 (Operand.tmp 3) 2, type := 0, pos := "law.go:17", after := #[], guard := none }) (v := .pointer (some ⟨W1.heap.size, 2, none⟩)) rfl (by kernel_rfl) (by kernel_rfl) (by kernel_rfl) (fun _ _ _ h => h) (Or.inl ⟨by rfl, fun w hSw => by (obtain ⟨⟨q0, q1, q2⟩, q3, q4, q5⟩ := hSw; go_simp)⟩) (by assumption) ?_
  try simp only [Act.put, List.setIfInBounds_toArray, List.set_cons_zero, List.set_cons_succ]
  refine wpAnyH_take (i := 13) (oi := { dst := some 36, op := Op.load 24 (Operand.tmp 35), type := 24, pos := "law.go:17", after := #[{ on := 12, ground := Ground.data }], guard := none }) (v := .slice (some ⟨g4, 0, none⟩) (N.ks.length + 1) cap4) rfl (by kernel_rfl) (by kernel_rfl) (by kernel_rfl) (fun _ _ _ h => h) (Or.inl ⟨by rfl, fun w hSw => by (obtain ⟨⟨q0, q1, q2⟩, q3, q4, q5⟩ := hSw; go_simp)⟩) (by assumption) ?_
  try simp only [Act.put, List.setIfInBounds_toArray, List.set_cons_zero, List.set_cons_succ]
  refine wpAnyH_take (i := 14) (oi := { dst := some 37, op := Op.fieldAddr 26 (Operand.tmp 1) 2, type := 0, pos := "law.go:17", after := #[], guard := none }) (v := .pointer (some ⟨w.heap.size, 2, none⟩)) rfl (by kernel_rfl) (by kernel_rfl) (by kernel_rfl) (fun _ _ _ h => h) (Or.inl ⟨by rfl, fun w hSw => by (obtain ⟨⟨q0, q1, q2⟩, q3, q4, q5⟩ := hSw; go_simp)⟩) (by assumption) ?_
  try simp only [Act.put, List.setIfInBounds_toArray, List.set_cons_zero, List.set_cons_succ]
  refine wpAnyH_take (i := 15) (oi := { dst := some 38, op := Op.load 24 (Operand.tmp 37), type := 24, pos := "law.go:17", after := #[{ on := 14, ground := Ground.data }], guard := none }) (v := .slice r.ka N.ks.length r.ck) rfl (by kernel_rfl) (by kernel_rfl) (by kernel_rfl) (fun _ _ _ h => h) (Or.inl ⟨by rfl, fun w hSw => by (obtain ⟨⟨q0, q1, q2⟩, q3, q4, q5⟩ := hSw; go_simp)⟩) (by assumption) ?_
  try simp only [Act.put, List.setIfInBounds_toArray, List.set_cons_zero, List.set_cons_succ]
  refine wpAnyH_take (i := 16) (oi := { dst := some 39, op := Op.call { callee := Callee.builtin Builtin.len, args := #[Operand.tmp 38], argTypes := #[24] }, type := 3, pos := "law.go:17", after := #[{ on := 15, ground := Ground.data }], guard := none }) (v := .int .i64 (N.ks.length : Int)) rfl (by kernel_rfl) (by kernel_rfl) (by kernel_rfl) (fun _ _ _ h => h) (Or.inl ⟨by rfl, fun w hSw => by (obtain ⟨⟨q0, q1, q2⟩, q3, q4, q5⟩ := hSw; go_simp)⟩) (by assumption) ?_
  try simp only [Act.put, List.setIfInBounds_toArray, List.set_cons_zero, List.set_cons_succ]
  refine wpAnyH_take (i := 17) (oi := { dst := some 40, op := Op.slice 24 (Operand.tmp 36) none (some (Operand.tmp 39)) none, type := 24, pos := "law.go:17", after := #[{ on := 13, ground := Ground.data }, { on := 16, ground := Ground.data }], guard := none }) (v := .slice (some ⟨g4, 0, none⟩) N.ks.length cap4) rfl (by kernel_rfl) (by kernel_rfl) (by kernel_rfl) (fun _ _ _ h => h) (Or.inl ⟨by rfl, fun w hSw => by (obtain ⟨⟨q0, q1, q2⟩, q3, q4, q5⟩ := hSw; go_simp)⟩) (by assumption) ?_
  try simp only [Act.put, List.setIfInBounds_toArray, List.set_cons_zero, List.set_cons_succ]
  refine wpAnyH_take (i := 18) (oi := { dst := some 41, op := Op.build 26 #[(0, Operand.tmp 28), (1, Operand.tmp 34), (2, Operand.tmp 40)], type := 26, pos := "law.go:17", after := #[{ on := 5, ground := Ground.data }, { on := 11, ground := Ground.data }, { on := 17, ground := Ground.data }], guard := none }) (v := .agg #[.slice (some ⟨g2, 0, none⟩) N.ps.length cap2, .slice (some ⟨g3, 0, none⟩) N.ss.length cap3, .slice (some ⟨g4, 0, none⟩) N.ks.length cap4]) rfl (by kernel_rfl) (by kernel_rfl) (by kernel_rfl) (fun _ _ _ h => h) (Or.inl ⟨by rfl, fun w hSw => by (obtain ⟨⟨q0, q1, q2⟩, q3, q4, q5⟩ := hSw; go_simp)⟩) (by assumption) ?_
  try simp only [Act.put, List.setIfInBounds_toArray, List.set_cons_zero, List.set_cons_succ]
  have r6 : W.drew.heap[w.heap.size + 1]? = _ := HL6.out.hr
  refine wpAnyH_ready (rs := [19]) (by kernel_rfl) (by simp) ?_
  refine AllReadyH.cons (o := { dst := none, op := Op.store 26 (Operand.tmp 2) (Operand.tmp 41), type := 0, pos := "law.go:17", after := #[{ on := 18, ground := Ground.data }, { on := 0, ground := Ground.phase }, { on := 1, ground := Ground.phase }, { on := 2, ground := Ground.phase }, { on := 3, ground := Ground.phase }, { on := 4, ground := Ground.phase }, { on := 5, ground := Ground.phase }, { on := 6, ground := Ground.phase }, { on := 7, ground := Ground.phase }, { on := 8, ground := Ground.phase }, { on := 9, ground := Ground.phase }, { on := 10, ground := Ground.phase }, { on := 11, ground := Ground.phase }, { on := 12, ground := Ground.phase }, { on := 13, ground := Ground.phase }, { on := 14, ground := Ground.phase }, { on := 15, ground := Ground.phase }, { on := 16, ground := Ground.phase }, { on := 17, ground := Ground.phase }, { on := 18, ground := Ground.phase }], guard := none }) rfl (fun K hK => ?_) AllReadyH.nil
  refine step_store_whole rfl 26 _ _ rfl (w.heap.size + 1) #[.slice (some ⟨g2, 0, none⟩) N.ps.length cap2, .slice (some ⟨g3, 0, none⟩) N.ss.length cap3, .slice (some ⟨g4, 0, none⟩) N.ks.length cap4] _ 26 (by rfl) (by rfl) r6 rfl (by kernel_rfl) (by kernel_rfl) ?_
  intro W7 r7 f7
  have bm := HL6.out.bm
  obtain ⟨⟨q0, q1, q2⟩, q3, q4, q5⟩ := d0'
  refine hK.out _ _ ⟨⟨(f7.cell (World.block_lt_of_cell? _ _ q0) (by simp only; omega)).trans q0, (f7.cell (World.block_lt_of_cell? _ _ q1) (by simp only; omega)).trans q1, (f7.cell (World.block_lt_of_cell? _ _ q2) (by simp only; omega)).trans q2⟩, (f7.cell (World.block_lt_of_cell? _ _ q3) (by simp)).trans q3, (f7.cell (World.block_lt_of_cell? _ _ q4) (by simp)).trans q4, (f7.cell (World.block_lt_of_cell? _ _ q5) (by simp)).trans q5⟩ (fun hHeld => ?_)
  clear hK K
  refine wpAnyH_done (by kernel_rfl) ?_ _
  go_wp2_with fail
  have G := HL6.out
  have f8 : Fr (fun k => k = w.heap.size + 1) W W7 := Fr.trans (Fr.drew (Fr.refl (fun k => k = w.heap.size + 1) W)) f7 (fun _ _ e => e)
  have kP := G.P.fr f8 (fun i hi e => G.P.ne G.hr (by decide) (by rw [← e]; exact hi))
  have kS := G.S.fr f8 (fun i hi e => G.S.ne G.hr (by decide) (by rw [← e]; exact hi))
  have kK := G.K.fr f8 (fun i hi e => G.K.ne G.hr (by decide) (by rw [← e]; exact hi))
  rw [pcells_mk] at kP
  rw [scells_mk] at kS
  rw [kcells_mk] at kK
  refine bodyPost_ret (results_row_one (p := 2) (ty := 26) (by kernel_rfl) _ _ (w.heap.size + 1) 26 _ (0, 0) _ rfl r7 Try.underlying26 rfl (by kernel_rfl)) rfl ⟨⟨some ⟨g2, 0, none⟩, N.ps.length, cap2⟩, ⟨some ⟨g3, 0, none⟩, N.ss.length, cap3⟩, ⟨some ⟨g4, 0, none⟩, N.ks.length, cap4⟩, rfl, ⟨own_up kP (G.gp g2 rfl), own_up kS (G.gs g3 rfl), own_up kK (G.gk g4 rfl), rfl, rfl, rfl⟩, Fr.trans (Fr.drew G.sm) f7 (fun i hi e => by omega)⟩
end Go.Proofs.Ytjlbkagkmcelgaa
