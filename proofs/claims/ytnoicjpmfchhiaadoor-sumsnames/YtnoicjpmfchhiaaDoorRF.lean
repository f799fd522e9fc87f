/- The document's Constants whole, Right; the walk of SumsNames. -/
import Derived.Test.YtnoicjpmfchhiaaDoorRE
import Derived.Test.YtnoicjpmfchhiaaDoorSG
namespace Go.Proofs.YtnoicjpmfchhiaaDoor
open Go.RowKit

theorem own_cellsX {W : World} {B n c sz : Nat} {e : TypeId} {ao : Option Addr} {xs : List Value} (h : W.ownsRow B e sz (.slice ao n c) n xs) {k : Nat} (hk : (Value.slice ao n c).ownBlock = some k) : ∃ cur, W.heap[k]? = some (.cells cur e (0, 0)) := by
  obtain ⟨hl, h0 | ⟨g2, c2, cur, hv, _, hh, _⟩⟩ := h
  · have hn := h0.1
    injection hn with e1 _ _
    rw [e1] at hk
    cases hk
  · injection hv with e1 _ _
    rw [e1] at hk
    simp [Value.ownBlock] at hk
    rw [hk] at hh
    exact ⟨cur, hh⟩
theorem own_ltX {W : World} {B n c sz : Nat} {e : TypeId} {ao : Option Addr} {xs : List Value} (h : W.ownsRow B e sz (.slice ao n c) n xs) {k : Nat} (hk : (Value.slice ao n c).ownBlock = some k) : k < W.heap.size := by
  obtain ⟨_, hc⟩ := own_cellsX h hk; exact lt_of_heap hc
theorem blk_someX {g n c k : Nat} (h : (Value.slice (some ⟨g, 0, none⟩) n c).ownBlock = some k) : g = k := by simpa [Value.ownBlock] using h
/-- Two rows under way in a box. -/
structure StG (w W : World) (b1 m i : Nat) (ha ka : Option Addr) (hc kc : Nat) : Prop where
  box : W.heap[b1]? = some (.cells #[.slice ha m hc, .slice ka i kc] 25 (0, 0))
  H : W.ownsRow 0 27 1 (.slice ha m hc) m (dcells (rtL 2 m))
  K : W.ownsRow 0 27 1 (.slice ka i kc) i (dcells (rtL 3 i))
  hb : ∀ k, (Value.slice ha m hc).ownBlock = some k → w.heap.size ≤ k
  kb : ∀ k, (Value.slice ka i kc).ownBlock = some k → w.heap.size ≤ k
  hk : ∀ k, (Value.slice ha m hc).ownBlock = some k → (Value.slice ka i kc).ownBlock = some k → False
  fr : Fr (fun k => k = b1) w W
theorem StG.h {w W W' : World} {b1 m i hc kc g3 c3 x y : Nat} {ha ka : Option Addr} (s : StG w W b1 m i ha ka hc kc) (hx : (pb 312)[m]? = some x) (hy : rootN x 2 = y) (box : W'.heap[b1]? = some (.cells #[.slice (some ⟨g3, 0, none⟩) (m + 1) c3, .slice ka i kc] 25 (0, 0))) (o : W'.ownsRow 0 27 1 (.slice (some ⟨g3, 0, none⟩) (m + 1) c3) (m + 1) (dcells (rtL 2 m ++ [y]))) (f : Fr (fun k => k = b1 ∨ (Value.slice ha m hc).ownBlock = some k) W W') (l : (Value.slice ha m hc).ownBlock = some g3 ∨ W.heap.size ≤ g3) : StG w W' b1 (m + 1) i (some ⟨g3, 0, none⟩) ka c3 kc where
  box := box
  H := by rw [rtL_succ hx, hy]; exact o
  K := own_frameB s.K f (fun k hk e => by rcases e with e | e; exact own_neT s.K s.box (by decide) k hk e; exact s.hk k e hk)
  hb := fun k hk => by
    have hk := blk_someX hk
    rcases l with e | e
    · have := s.hb _ e; omega
    · have := s.fr.size; omega
  kb := s.kb
  hk := fun k h1 h2 => by
    have h1 := blk_someX h1
    rcases l with e | e
    · exact s.hk _ e (by rw [h1]; exact h2)
    · have := own_ltX s.K h2; omega
  fr := Fr.trans s.fr f (fun k hl e => by rcases e with e | e; exact e; exact absurd (s.hb k e) (by omega))
theorem StG.k {w W W' : World} {b1 m i hc kc g3 c3 x y : Nat} {ha ka : Option Addr} (s : StG w W b1 m i ha ka hc kc) (hx : (pb 312)[i]? = some x) (hy : rootN x 3 = y) (box : W'.heap[b1]? = some (.cells #[.slice ha m hc, .slice (some ⟨g3, 0, none⟩) (i + 1) c3] 25 (0, 0))) (o : W'.ownsRow 0 27 1 (.slice (some ⟨g3, 0, none⟩) (i + 1) c3) (i + 1) (dcells (rtL 3 i ++ [y]))) (f : Fr (fun k => k = b1 ∨ (Value.slice ka i kc).ownBlock = some k) W W') (l : (Value.slice ka i kc).ownBlock = some g3 ∨ W.heap.size ≤ g3) : StG w W' b1 m (i + 1) ha (some ⟨g3, 0, none⟩) hc c3 where
  box := box
  H := own_frameB s.H f (fun k hk e => by rcases e with e | e; exact own_neT s.H s.box (by decide) k hk e; exact s.hk k hk e)
  K := by rw [rtL_succ hx, hy]; exact o
  hb := s.hb
  kb := fun k hk => by
    have hk := blk_someX hk
    rcases l with e | e
    · have := s.kb _ e; omega
    · have := s.fr.size; omega
  hk := fun k h1 h2 => by
    have h2 := blk_someX h2
    rcases l with e | e
    · exact s.hk _ (by rw [h2]; exact h1) e
    · have := own_ltX s.H h1; omega
  fr := Fr.trans s.fr f (fun k hl e => by rcases e with e | e; exact e; exact absurd (s.kb k e) (by omega))
theorem rgL {b0 b1 gp cp : Nat} {Q : Exit → Act → World → Prop} (hQp : ∀ c (a : Act) d v w, Q (.panic c) (a.put d v) w → Q (.panic c) a w) (a0 : Act) (w : World) (I0 : IRG (.pointer (some ⟨b0, 0, none⟩)) (.pointer (some ⟨b1, 0, none⟩)) (.slice (some ⟨gp, 0, none⟩) 64 cp) a0) (h3 : a0.eval (.tmp 3) = .int .i64 ((0 : Nat) : Int)) (hr : w.heap[b1]? = some (.cells #[.slice none 0 0, .slice none 0 0] 25 (0, 0))) (hp : w.ownsRow 0 39 1 (.slice (some ⟨gp, 0, none⟩) 64 cp) 64 (vcells (pb 312))) (hne : gp ≠ b1)
    (hQ : ∀ a W ha ka hc kc, IRG (.pointer (some ⟨b0, 0, none⟩)) (.pointer (some ⟨b1, 0, none⟩)) (.slice (some ⟨gp, 0, none⟩) 64 cp) a → StG w W b1 8 64 ha ka hc kc → Q (.exit 0) a W) : (Code.loop cRG1).wp Tryd.prog Q a0 w := by
  refine wp_loop (fun a W => IRG (.pointer (some ⟨b0, 0, none⟩)) (.pointer (some ⟨b1, 0, none⟩)) (.slice (some ⟨gp, 0, none⟩) 64 cp) a ∧ ∃ (i hc kc : Nat) (ha ka : Option Addr), i ≤ 64 ∧ a.eval (.tmp 3) = .int .i64 (i : Int) ∧ StG w W b1 (min i 8) i ha ka hc kc) (fun a _ => 64 - kOf a 3) ⟨I0, 0, 0, 0, none, none, Nat.zero_le _, h3, hr, own_nil, own_nil, fun k hk => (by cases hk), fun k hk => (by cases hk), fun k hk => (by cases hk), Fr.refl _ _⟩ ?_
  rintro a W ⟨I1, i, hc, kc, ha, ka, hi, g3, s1⟩
  have hgl : gp < w.heap.size := own_ltX hp (by simp [Value.ownBlock])
  by_cases hgo : i < 64
  · obtain ⟨x, hx⟩ : ∃ x, (pb 312)[i]? = some x := ⟨_, List.getElem?_eq_getElem (by rw [pb_312]; exact hgo)⟩
    have kx0 := own_cell hp (vcells_at hx)
    have kx : W.cell? ⟨gp, i, none⟩ = some (.int .u64 (x : Int)) := (s1.fr.cell (World.block_lt_of_cell? _ _ kx0) hne).trans kx0
    have fin : ∀ (a' : Act) (W' : World) (m hc' kc' : Nat) (ha' ka' : Option Addr), m = min (i + 1) 8 → IRG (.pointer (some ⟨b0, 0, none⟩)) (.pointer (some ⟨b1, 0, none⟩)) (.slice (some ⟨gp, 0, none⟩) 64 cp) a' → a'.eval (.tmp 3) = .int .i64 ((i : Int) + 1) → StG w W' b1 m (i + 1) ha' ka' hc' kc' → (IRG (.pointer (some ⟨b0, 0, none⟩)) (.pointer (some ⟨b1, 0, none⟩)) (.slice (some ⟨gp, 0, none⟩) 64 cp) a' ∧ ∃ (i hc kc : Nat) (ha ka : Option Addr), i ≤ 64 ∧ a'.eval (.tmp 3) = .int .i64 (i : Int) ∧ StG w W' b1 (min i 8) i ha ka hc kc) ∧ 64 - kOf a' 3 < 64 - kOf a 3 := by
      intro a' W' m hc' kc' ha' ka' hm i2 j3 s2
      have h4 : a'.eval (.tmp 3) = .int .i64 ((i + 1 : Nat) : Int) := j3
      refine ⟨⟨i2, i + 1, hc', kc', ha', ka', hgo, h4, by rw [← hm]; exact s2⟩, ?_⟩
      rw [kOf_eq h4, kOf_eq g3]
      omega
    have second : ∀ (a' : Act) (W' : World) (m hc' : Nat) (ha' : Option Addr), m = min (i + 1) 8 → IRG (.pointer (some ⟨b0, 0, none⟩)) (.pointer (some ⟨b1, 0, none⟩)) (.slice (some ⟨gp, 0, none⟩) 64 cp) a' → a'.eval (.tmp 3) = .int .i64 (i : Int) → StG w W' b1 m i ha' ka hc' kc → (Code.region 8 rRG8 true).wp Tryd.prog (Exit.inBlock 1 (Exit.then (Code.wp Tryd.prog (Code.region 5 rRG5 false) (Exit.then (fun a' W' => (IRG (.pointer (some ⟨b0, 0, none⟩)) (.pointer (some ⟨b1, 0, none⟩)) (.slice (some ⟨gp, 0, none⟩) 64 cp) a' ∧ ∃ (i hc kc : Nat) (ha ka : Option Addr), i ≤ 64 ∧ a'.eval (.tmp 3) = .int .i64 (i : Int) ∧ StG w W' b1 (min i 8) i ha ka hc kc) ∧ 64 - kOf a' 3 < 64 - kOf a 3) Q)) (Exit.then (fun a' W' => (IRG (.pointer (some ⟨b0, 0, none⟩)) (.pointer (some ⟨b1, 0, none⟩)) (.slice (some ⟨gp, 0, none⟩) 64 cp) a' ∧ ∃ (i hc kc : Nat) (ha ka : Option Addr), i ≤ 64 ∧ a'.eval (.tmp 3) = .int .i64 (i : Int) ∧ StG w W' b1 (min i 8) i ha ka hc kc) ∧ 64 - kOf a' 3 < 64 - kOf a 3) Q))) a' W' := by
      intro a' W' m hc' ha' hm i2 j3 s2
      have kx2 : W'.cell? ⟨gp, i, none⟩ = some (.int .u64 (x : Int)) := (s2.fr.cell (World.block_lt_of_cell? _ _ kx0) hne).trans kx0
      refine rg8 (by exact fun c a d v w h => hQp c a d v w h) a' W' i2 j3 hgo (by omega) kx2 rfl s2.box s2.K (fun e => by have := s2.kb _ e; omega) (fun a3 W3 g5 c5 i3 k3 b3 o3 f3 l3 => ?_)
      have s3 := s2.k hx rfl b3 o3 f3 l3
      change Code.wp _ _ _ _ _
      exact rgT (Q := Exit.then _ Q) a3 W3 i3 k3 hgo (fun a4 i4 k4 => fin a4 W3 m _ _ _ _ hm i4 k4 s3)
    by_cases h8 : i < 8
    · have hm : min i 8 = i := by omega
      rw [hm] at s1
      refine rgHA (Q := Exit.then _ Q) a W I1 g3 hgo h8 (fun a1 i1 j1 => ?_)
      refine rg7 (by exact fun c a d v w h => hQp c a d v w h) a1 W i1 j1 hgo (by omega) kx rfl s1.box s1.H (fun e => by have := s1.hb _ e; omega) (fun a3 W3 g5 c5 i3 k3 b3 o3 f3 l3 => ?_)
      have s3 := s1.h hx rfl b3 o3 f3 l3
      exact second a3 W3 (i + 1) _ _ (by omega) i3 k3 s3
    · have hm : min i 8 = 8 := by omega
      rw [hm] at s1
      exact rgHB (Q := Exit.then _ Q) a W I1 g3 hgo (by omega) (fun a1 i1 j1 => second a1 W 8 _ _ (by omega) i1 j1 s1)
  · obtain rfl : i = 64 := by omega
    exact rgE a W I1 g3 (Nat.le_refl _) (fun a' i2 => hQ a' W ha ka hc kc i2 s1)
set_option maxRecDepth 100000 in
set_option maxHeartbeats 2000000 in
theorem constants_calls (w : World) :
    Calls Tryd.prog 6 #[] w fun e w' => ∃ gh hc gk kc, e = .returned (.agg #[.slice (some ⟨gh, 0, none⟩) 8 hc, .slice (some ⟨gk, 0, none⟩) 64 kc]) ∧ w'.ownsRow 0 27 1 (.slice (some ⟨gh, 0, none⟩) 8 hc) 8 (dcells (rtL 2 8)) ∧ w'.ownsRow 0 27 1 (.slice (some ⟨gk, 0, none⟩) 64 kc) 64 (dcells (rtL 3 64)) ∧ Same w w' := by
  refine calls_abs (c := cRG) Tryd.func6 (by kernel_rfl) 32 rfl (by simp) (fun a0 hsz hd _ => ?_)
  have fa0_0 := Fe.refl a0
  unfold cRG
  refine wp_seq ?_
  refine wp_region_list ?_
  unfold rRG0
  have r_a0_1 : (execOp a0.eval { dst := some 0, op := Op.alloc 25, type := 0, pos := "ref.go:150", after := #[], guard := none }).run Tryd.prog (w) = .ok (.value (.pointer (some ⟨w.heap.size, 0, none⟩))) (World.alloc w (.cells #[.slice none 0 0, .slice none 0 0] 25)) := by
    clear fa0_0 
    generalize a0.eval = ρ at *
    go_simp
  refine fa0_0.stepW 0 (.pointer (some ⟨w.heap.size, 0, none⟩)) rfl (lb_ hsz) (wanted_none rfl) r_a0_1 (fun a0_1 fa0_1 => ?_)
  clear r_a0_1
  have s1 : Same w (World.alloc w (.cells #[.slice none 0 0, .slice none 0 0] 25)) := (Fr.refl _ w).alloc _
  have r1 : (World.alloc w (.cells #[.slice none 0 0, .slice none 0 0] 25)).heap[w.heap.size]? = some (.cells #[.slice none 0 0, .slice none 0 0] 25 (0, 0)) := heap_alloc_new w _
  generalize hV1 : World.alloc w (.cells #[.slice none 0 0, .slice none 0 0] 25) = V1 at *
  clear fa0_0
  refine wpList_nil ?_
  have z1 : w.heap.size < V1.heap.size := lt_of_heap r1
  clear hV1
  change Code.wp _ _ _ _ _
  refine wp_seq ?_
  refine wp_region_list ?_
  unfold rRG1
  have r_a0_2 : (execOp a0_1.eval { dst := some 1, op := Op.alloc 25, type := 0, pos := "ref.go:151", after := #[], guard := none }).run Tryd.prog (V1) = .ok (.value (.pointer (some ⟨V1.heap.size, 0, none⟩))) (World.alloc V1 (.cells #[.slice none 0 0, .slice none 0 0] 25)) := by
    clear fa0_1
    generalize a0_1.eval = ρ at *
    go_simp
  refine fa0_1.stepW 1 (.pointer (some ⟨V1.heap.size, 0, none⟩)) rfl (lb_ hsz) (wanted_none rfl) r_a0_2 (fun a0_2 fa0_2 => ?_)
  clear r_a0_2
  have s2 : Same V1 (World.alloc V1 (.cells #[.slice none 0 0, .slice none 0 0] 25)) := (Fr.refl _ V1).alloc _
  have r2 : (World.alloc V1 (.cells #[.slice none 0 0, .slice none 0 0] 25)).heap[V1.heap.size]? = some (.cells #[.slice none 0 0, .slice none 0 0] 25 (0, 0)) := heap_alloc_new V1 _
  generalize hV2 : World.alloc V1 (.cells #[.slice none 0 0, .slice none 0 0] 25) = V2 at *
  clear fa0_1
  refine wpList_nil ?_
  have z2 : V1.heap.size < V2.heap.size := lt_of_heap r2
  clear hV2
  change Code.wp _ _ _ _ _
  refine wp_seq ?_
  refine wp_region_list ?_
  unfold rRG2
  have r_a0_3 : (execOp a0_2.eval { dst := some 4, op := Op.call { callee := Callee.value (Operand.func 11), args := #[Operand.const (Value.int IntKind.i64 64)], argTypes := #[3] }, type := 36, pos := "ref.go:152", after := #[], guard := none }).run Tryd.prog (V2) = .ok (.enter 11 #[Value.int IntKind.i64 64]) (V2) := by
    have kc : ∀ v, a0_2.eval (.const v) = v := fun _ => rfl
    have kf : ∀ f, a0_2.eval (.func f) = .func (.func f) #[] #[] := fun _ => rfl
    clear fa0_2 
    generalize a0_2.eval = ρ at *
    go_simp
  refine fa0_2.call 4 rfl (lb_ hsz) (wanted_none rfl) r_a0_3 (primes_calls V2) (fun e V3 hR => ?_)
  obtain ⟨gp, cp, rfl, o3, s3, l3⟩ := hR
  clear r_a0_3
  refine ⟨_, rfl, fun a0_3 fa0_3 => ?_⟩
  clear fa0_2
  refine fa0_3.move 2 (.slice (some ⟨gp, 0, none⟩) 64 cp) _ (Or.inr rfl) rfl (lb_ hsz) (wanted_none rfl) (fa0_3.at_ 4) (fun a0_4 fa0_4 => ?_)
  clear fa0_3
  refine wpList_nil ?_
  change Code.wp _ _ _ _ _
  refine wp_seq (wp_seq ?_)
  have r1 := heap_fr r1 (s2.trans s3) (fun f => f)
  have r2 := heap_fr r2 s3 (fun f => f)
  refine wp_region_list ?_
  unfold rRG3
  refine fa0_4.move 3 (.int .i64 ((0 : Nat) : Int)) _ (Or.inr rfl) rfl (lb_ hsz) (wanted_none rfl) rfl (fun a0_5 fa0_5 => ?_)
  clear fa0_4
  refine wpList_nil ?_
  change Code.wp _ _ _ _ _
  refine wp_block ?_
  refine rgL (b0 := w.heap.size) (b1 := V1.heap.size) (by intro c a d v w h; cases d <;> exact h) a0_5 V3 ⟨fa0_5.size.trans hsz, fa0_5.defers.trans hd, (show a0_5.eval (.tmp 0) = .pointer (some ⟨w.heap.size, 0, none⟩) from (fa0_5.at_ 0)), (show a0_5.eval (.tmp 1) = .pointer (some ⟨V1.heap.size, 0, none⟩) from (fa0_5.at_ 1)), (show a0_5.eval (.tmp 2) = .slice (some ⟨gp, 0, none⟩) 64 cp from (fa0_5.at_ 2))⟩ (show a0_5.eval (.tmp 3) = .int .i64 ((0 : Nat) : Int) from (fa0_5.at_ 3)) r2 o3 (by omega) (fun b1 W ha ka hc kc i1 g1 => ?_)
  change Code.wp _ _ _ _ _
  refine wp_seq ?_
  have rw1 : W.heap[w.heap.size]? = some (.cells #[.slice none 0 0, .slice none 0 0] 25 (0, 0)) := heap_fr r1 g1.fr (fun e => by have e2 : w.heap.size = V1.heap.size := e; omega)
  have fb1_0 := Fe.refl b1
  refine wp_region_list ?_
  unfold rRG9
  have r_b1_1 : (execOp b1.eval { dst := some 31, op := Op.load 25 (Operand.tmp 1), type := 25, pos := "ref.go:159", after := #[], guard := none }).run Tryd.prog (W) = .ok (.value (.agg #[.slice ha 8 hc, .slice ka 64 kc])) (W) := by
    exact exec_load_mid 25 _ rfl V1.heap.size 0 (show b1.eval (.tmp 1) = .pointer (some ⟨V1.heap.size, 0, none⟩) from ((fb1_0.at_ 1).trans i1.s1)) [.slice ha 8 hc, .slice ka 64 kc] _ (range_row g1.box (fun j v hj => by match j, hj with | 0, hj => exact hj | 1, hj => exact hj)) Tryd.underlying25 rfl (by kernel_rfl)
  refine fb1_0.step 31 (.agg #[.slice ha 8 hc, .slice ka 64 kc]) rfl (lb_ i1.size) (wanted_none rfl) r_b1_1 (fun b1_1 fb1_1 => ?_)
  clear r_b1_1
  clear fb1_0
  have r_b1_2 : (execOp b1_1.eval { dst := none, op := Op.store 25 (Operand.tmp 0) (Operand.tmp 31), type := 0, pos := "ref.go:159", after := #[{ on := 0, ground := Ground.data }, { on := 0, ground := Ground.phase }], guard := none }).run Tryd.prog (W) = .ok .skip (World.setCells W w.heap.size 0 [.slice ha 8 hc, .slice ka 64 kc]) := by
    exact exec_store_mid 25 _ _ rfl w.heap.size 0 #[.slice ha 8 hc, .slice ka 64 kc] (show b1_1.eval (.tmp 0) = .pointer (some ⟨w.heap.size, 0, none⟩) from ((fb1_1.at_ 0).trans i1.s0)) (show b1_1.eval (.tmp 31) = .agg #[.slice ha 8 hc, .slice ka 64 kc] from (fb1_1.at_ 31)) (there_row rw1 rfl) (by kernel_rfl) (by kernel_rfl)
  refine fb1_1.store rfl (wanted_none rfl) r_b1_2 (fun b1_2 fb1_2 => ?_)
  clear r_b1_2
  have r9 : (World.setCells W w.heap.size 0 [.slice ha 8 hc, .slice ka 64 kc]).heap[w.heap.size]? = some (.cells #[.slice ha 8 hc, .slice ka 64 kc] 25 (0, 0)) := setCells_whole [.slice ha 8 hc, .slice ka 64 kc] _ rw1 rfl (there_row rw1 rfl)
  have f9 : Fr (fun k => k = w.heap.size) W (World.setCells W w.heap.size 0 [.slice ha 8 hc, .slice ka 64 kc]) := Fr.setCells (S := fun k => k = w.heap.size) (fun _ => rfl) _ 0 W (Fr.refl _ W)
  generalize World.setCells W w.heap.size 0 [.slice ha 8 hc, .slice ka 64 kc] = V at *
  clear fb1_1
  refine wpList_nil ?_
  change Code.wp _ _ _ _ _
  refine wp_ret ?_
  have oH := own_frameB g1.H f9 (fun k hk e => own_neT g1.H rw1 (by decide) k hk e)
  have oK := own_frameB g1.K f9 (fun k hk e => own_neT g1.K rw1 (by decide) k hk e)
  obtain ⟨gh, rfl, _⟩ := own_some oH (by decide)
  obtain ⟨gk, rfl, _⟩ := own_some oK (by decide)
  refine bodyPost_ret (results_row_one rfl _ _ _ _ _ _ _ (show b1_2.eval (.tmp 0) = .pointer (some ⟨w.heap.size, 0, none⟩) from ((fb1_2.at_ 0).trans i1.s0)) r9 Tryd.underlying25 rfl (by kernel_rfl)) (fb1_2.defers.trans i1.defers) ⟨gh, hc, gk, kc, rfl, oH, oK, ?_⟩
  exact Fr.trans (Fr.trans (s1.trans (s2.trans s3)) g1.fr (fun k hk e => by have e2 : k = V1.heap.size := e; omega)) f9 (fun k hk e => by have e2 : k = w.heap.size := e; omega)
def rRH0 : Array Oper := #[{ dst := some 0, op := Op.assign (Operand.const (Value.bool false)), type := 4, pos := "ref.go:242", after := #[], guard := none }]
def rRH1 : Array Oper := #[{ dst := some 4, op := Op.call { callee := Callee.value (Operand.func 6), args := #[], argTypes := #[] }, type := 25, pos := "ref.go:243", after := #[], guard := none },
  { dst := some 1, op := Op.alloc 25, type := 0, pos := "ref.go:243", after := #[], guard := none },
  { dst := none, op := Op.store 25 (Operand.tmp 1) (Operand.tmp 4), type := 0, pos := "ref.go:243", after := #[{ on := 1, ground := Ground.data }, { on := 0, ground := Ground.data }, { on := 0, ground := Ground.chain }, { on := 0, ground := Ground.phase }, { on := 1, ground := Ground.phase }], guard := none }]
def rRH2 : Array Oper := #[{ dst := some 5, op := Op.call { callee := Callee.value (Operand.func 7), args := #[], argTypes := #[] }, type := 25, pos := "ref.go:244", after := #[], guard := none },
  { dst := some 2, op := Op.alloc 25, type := 0, pos := "ref.go:244", after := #[], guard := none },
  { dst := none, op := Op.store 25 (Operand.tmp 2) (Operand.tmp 5), type := 0, pos := "ref.go:244", after := #[{ on := 1, ground := Ground.data }, { on := 0, ground := Ground.data }, { on := 0, ground := Ground.chain }, { on := 0, ground := Ground.phase }, { on := 1, ground := Ground.phase }], guard := none }]
def rRH3 : Array Oper := #[{ dst := some 3, op := Op.assign (Operand.const (Value.int IntKind.i64 0)), type := 3, pos := "ref.go:245", after := #[], guard := none }]
def rRH4 : Array Oper := #[{ dst := some 6, op := Op.move (Operand.tmp 3), type := 3, pos := "ref.go:245", after := #[], guard := none },
  { dst := some 7, op := Op.binOp BinOp.lss 3 (Operand.tmp 6) (Operand.const (Value.int IntKind.i64 64)) 3, type := 4, pos := "ref.go:245", after := #[{ on := 0, ground := Ground.data }], guard := none }]
def rRH5 : Array Oper := #[{ dst := some 8, op := Op.move (Operand.tmp 3), type := 3, pos := "ref.go:245", after := #[], guard := none },
  { dst := some 9, op := Op.binOp BinOp.add 3 (Operand.tmp 8) (Operand.const (Value.int IntKind.i64 1)) 3, type := 3, pos := "ref.go:245", after := #[{ on := 0, ground := Ground.data }], guard := none },
  { dst := some 3, op := Op.assign (Operand.tmp 9), type := 3, pos := "ref.go:245", after := #[{ on := 1, ground := Ground.data }, { on := 0, ground := Ground.phase }, { on := 1, ground := Ground.phase }], guard := none }]
def rRH6 : Array Oper := #[{ dst := some 10, op := Op.move (Operand.tmp 3), type := 3, pos := "ref.go:246", after := #[], guard := none },
  { dst := some 11, op := Op.binOp BinOp.lss 3 (Operand.tmp 10) (Operand.const (Value.int IntKind.i64 8)) 3, type := 4, pos := "ref.go:246", after := #[{ on := 0, ground := Ground.data }], guard := none },
  { dst := some 12, op := Op.move (Operand.tmp 11), type := 4, pos := "ref.go:246", after := #[{ on := 1, ground := Ground.data }], guard := none },
  { dst := some 13, op := Op.fieldAddr 25 (Operand.tmp 1) 0, type := 0, pos := "ref.go:246", after := #[{ on := 2, ground := Ground.guard }], guard := some (2, true) },
  { dst := some 14, op := Op.load 23 (Operand.tmp 13), type := 23, pos := "ref.go:246", after := #[{ on := 3, ground := Ground.data }, { on := 2, ground := Ground.guard }], guard := some (2, true) },
  { dst := some 15, op := Op.move (Operand.tmp 3), type := 3, pos := "ref.go:246", after := #[{ on := 2, ground := Ground.guard }], guard := some (2, true) },
  { dst := some 16, op := Op.indexAddr 23 (Operand.tmp 14) (Operand.tmp 15), type := 0, pos := "ref.go:246", after := #[{ on := 4, ground := Ground.data }, { on := 5, ground := Ground.data }, { on := 2, ground := Ground.guard }], guard := some (2, true) },
  { dst := some 17, op := Op.load 27 (Operand.tmp 16), type := 27, pos := "ref.go:246", after := #[{ on := 6, ground := Ground.data }, { on := 2, ground := Ground.guard }], guard := some (2, true) },
  { dst := some 18, op := Op.fieldAddr 25 (Operand.tmp 2) 0, type := 0, pos := "ref.go:246", after := #[{ on := 2, ground := Ground.guard }], guard := some (2, true) },
  { dst := some 19, op := Op.load 23 (Operand.tmp 18), type := 23, pos := "ref.go:246", after := #[{ on := 8, ground := Ground.data }, { on := 2, ground := Ground.guard }], guard := some (2, true) },
  { dst := some 20, op := Op.move (Operand.tmp 3), type := 3, pos := "ref.go:246", after := #[{ on := 2, ground := Ground.guard }], guard := some (2, true) },
  { dst := some 21, op := Op.indexAddr 23 (Operand.tmp 19) (Operand.tmp 20), type := 0, pos := "ref.go:246", after := #[{ on := 9, ground := Ground.data }, { on := 10, ground := Ground.data }, { on := 2, ground := Ground.guard }], guard := some (2, true) },
  { dst := some 22, op := Op.load 27 (Operand.tmp 21), type := 27, pos := "ref.go:246", after := #[{ on := 11, ground := Ground.data }, { on := 2, ground := Ground.guard }], guard := some (2, true) },
  { dst := some 23, op := Op.binOp BinOp.neq 27 (Operand.tmp 17) (Operand.tmp 22) 27, type := 4, pos := "ref.go:246", after := #[{ on := 7, ground := Ground.data }, { on := 12, ground := Ground.data }, { on := 2, ground := Ground.guard }], guard := some (2, true) },
  { dst := some 24, op := Op.pick (Operand.tmp 12) (Operand.tmp 23) (Operand.const (Value.bool false)), type := 4, pos := "ref.go:246", after := #[{ on := 2, ground := Ground.data }, { on := 13, ground := Ground.data }], guard := none },
  { dst := some 25, op := Op.move (Operand.tmp 24), type := 4, pos := "ref.go:246", after := #[{ on := 14, ground := Ground.data }, { on := 2, ground := Ground.chain }], guard := none },
  { dst := some 26, op := Op.fieldAddr 25 (Operand.tmp 1) 1, type := 0, pos := "ref.go:246", after := #[{ on := 15, ground := Ground.guard }], guard := some (15, false) },
  { dst := some 27, op := Op.load 23 (Operand.tmp 26), type := 23, pos := "ref.go:246", after := #[{ on := 16, ground := Ground.data }, { on := 15, ground := Ground.guard }], guard := some (15, false) },
  { dst := some 28, op := Op.move (Operand.tmp 3), type := 3, pos := "ref.go:246", after := #[{ on := 15, ground := Ground.guard }], guard := some (15, false) },
  { dst := some 29, op := Op.indexAddr 23 (Operand.tmp 27) (Operand.tmp 28), type := 0, pos := "ref.go:246", after := #[{ on := 17, ground := Ground.data }, { on := 18, ground := Ground.data }, { on := 15, ground := Ground.guard }], guard := some (15, false) },
  { dst := some 30, op := Op.load 27 (Operand.tmp 29), type := 27, pos := "ref.go:246", after := #[{ on := 19, ground := Ground.data }, { on := 15, ground := Ground.guard }], guard := some (15, false) },
  { dst := some 31, op := Op.fieldAddr 25 (Operand.tmp 2) 1, type := 0, pos := "ref.go:246", after := #[{ on := 15, ground := Ground.guard }], guard := some (15, false) },
  { dst := some 32, op := Op.load 23 (Operand.tmp 31), type := 23, pos := "ref.go:246", after := #[{ on := 21, ground := Ground.data }, { on := 15, ground := Ground.guard }], guard := some (15, false) },
  { dst := some 33, op := Op.move (Operand.tmp 3), type := 3, pos := "ref.go:246", after := #[{ on := 15, ground := Ground.guard }], guard := some (15, false) },
  { dst := some 34, op := Op.indexAddr 23 (Operand.tmp 32) (Operand.tmp 33), type := 0, pos := "ref.go:246", after := #[{ on := 22, ground := Ground.data }, { on := 23, ground := Ground.data }, { on := 15, ground := Ground.guard }], guard := some (15, false) },
  { dst := some 35, op := Op.load 27 (Operand.tmp 34), type := 27, pos := "ref.go:246", after := #[{ on := 24, ground := Ground.data }, { on := 15, ground := Ground.guard }], guard := some (15, false) },
  { dst := some 36, op := Op.binOp BinOp.neq 27 (Operand.tmp 30) (Operand.tmp 35) 27, type := 4, pos := "ref.go:246", after := #[{ on := 20, ground := Ground.data }, { on := 25, ground := Ground.data }, { on := 15, ground := Ground.guard }], guard := some (15, false) },
  { dst := some 37, op := Op.pick (Operand.tmp 25) (Operand.const (Value.bool true)) (Operand.tmp 36), type := 4, pos := "ref.go:246", after := #[{ on := 15, ground := Ground.data }, { on := 26, ground := Ground.data }], guard := none }]
def rRH7 : Array Oper := #[{ dst := some 0, op := Op.assign (Operand.const (Value.bool false)), type := 4, pos := "ref.go:247", after := #[], guard := none }]
def rRH8 : Array Oper := #[{ dst := some 0, op := Op.assign (Operand.const (Value.bool true)), type := 4, pos := "ref.go:250", after := #[], guard := none }]
def cRH1 : Code := (Code.seq (Code.seq (Code.region 4 rRH4 false) (Code.cond (Operand.tmp 7) Code.skip (Code.exit 0))) (Code.seq (Code.block 1 (Code.seq (Code.region 6 rRH6 true) (Code.cond (Operand.tmp 37) (Code.seq (Code.region 7 rRH7 false) Code.ret) Code.skip))) (Code.region 5 rRH5 false)))
def cRH : Code := (Code.seq (Code.region 0 rRH0 false) (Code.seq (Code.region 1 rRH1 false) (Code.seq (Code.region 2 rRH2 false) (Code.seq (Code.seq (Code.region 3 rRH3 false) (Code.block 0 (Code.loop cRH1))) (Code.seq (Code.region 8 rRH8 false) Code.ret)))))
structure IRH (v1 v2 : Value) (a : Act) : Prop where
  size : a.tmps.size = 38
  defers : a.defers = []
  s1 : a.eval (.tmp 1) = v1
  s2 : a.eval (.tmp 2) = v2
theorem IRH.keep {v1 v2 : Value} {a0 a : Act} {env : List (Nat × Value)} (h : IRH v1 v2 a0) (f : Fe a0 env a) (h1 : look env 1 (a0.eval (.tmp 1)) = a0.eval (.tmp 1)) (h2 : look env 2 (a0.eval (.tmp 2)) = a0.eval (.tmp 2)) : IRH v1 v2 a :=
  ⟨f.size.trans h.size, f.defers.trans h.defers, ((f.at_ 1).trans h1).trans h.s1, ((f.at_ 2).trans h2).trans h.s2⟩
theorem rhE {b1 b2 i : Nat} {Q : Exit → Act → World → Prop} (a0 : Act) (wr : World) (I0 : IRH (.pointer (some ⟨b1, 0, none⟩)) (.pointer (some ⟨b2, 0, none⟩)) a0) (h3 : a0.eval (.tmp 3) = .int .i64 (i : Int)) (hi : 64 ≤ i) (hQ : ∀ a, IRH (.pointer (some ⟨b1, 0, none⟩)) (.pointer (some ⟨b2, 0, none⟩)) a → Q (.exit 0) a wr) : cRH1.wp Tryd.prog Q a0 wr := by
  have hii : ¬ (i : Int) < 64 := by omega
  have hi2 : (64 : Int) ≤ (i : Int) := by omega
  clear hi
  have fa0_0 := Fe.refl a0
  unfold cRH1
  refine wp_seq (wp_seq ?_)
  refine wp_region_list ?_
  unfold rRH4
  refine fa0_0.move 6 (.int .i64 (i : Int)) _ (Or.inl rfl) rfl (lb_ I0.size) (wanted_none rfl) ((fa0_0.at_ 3).trans h3) (fun a0_1 fa0_1 => ?_)
  clear fa0_0
  have r_a0_2 : (execOp a0_1.eval { dst := some 7, op := Op.binOp BinOp.lss 3 (Operand.tmp 6) (Operand.const (Value.int IntKind.i64 64)) 3, type := 4, pos := "ref.go:245", after := #[{ on := 0, ground := Ground.data }], guard := none }).run Tryd.prog (wr) = .ok (.value (.bool false)) (wr) := by
    have kc : ∀ v, a0_1.eval (.const v) = v := fun _ => rfl
    have e6 := (show a0_1.eval (.tmp 6) = .int .i64 (i : Int) from (fa0_1.at_ 6))
    clear fa0_1 hQ h3
    generalize a0_1.eval = ρ at *
    go_simp
  refine fa0_1.step 7 (.bool false) rfl (lb_ I0.size) (wanted_none rfl) r_a0_2 (fun a0_2 fa0_2 => ?_)
  clear r_a0_2
  clear fa0_1
  refine wpList_nil ?_
  change Code.wp _ _ _ _ _
  refine wp_cond_false (show a0_2.eval (.tmp 7) = .bool false from (fa0_2.at_ 7)) (wp_exit ?_)
  exact hQ a0_2 (I0.keep fa0_2 rfl rfl)
set_option maxRecDepth 100000 in
set_option maxHeartbeats 2000000 in
theorem rhA {b1 b2 i g1 g2 k1 k2 c1 c2 d1 d2 x y : Nat} {Q : Exit → Act → World → Prop} (hQp : ∀ c (a : Act) d v w, Q (.panic c) (a.put d v) w → Q (.panic c) a w) (a0 : Act) (wr : World) (I0 : IRH (.pointer (some ⟨b1, 0, none⟩)) (.pointer (some ⟨b2, 0, none⟩)) a0) (h3 : a0.eval (.tmp 3) = .int .i64 (i : Int)) (hi : i < 64) (h8 : i < 8) (r1 : wr.heap[b1]? = some (.cells #[.slice (some ⟨g1, 0, none⟩) 8 c1, .slice (some ⟨k1, 0, none⟩) 64 d1] 25 (0, 0))) (r2 : wr.heap[b2]? = some (.cells #[.slice (some ⟨g2, 0, none⟩) 8 c2, .slice (some ⟨k2, 0, none⟩) 64 d2] 25 (0, 0)))
    (x1 : wr.cell? ⟨g1, i, none⟩ = some (.int .u32 (x : Int))) (x2 : wr.cell? ⟨g2, i, none⟩ = some (.int .u32 (x : Int))) (y1 : wr.cell? ⟨k1, i, none⟩ = some (.int .u32 (y : Int))) (y2 : wr.cell? ⟨k2, i, none⟩ = some (.int .u32 (y : Int))) (hQ : ∀ a W, IRH (.pointer (some ⟨b1, 0, none⟩)) (.pointer (some ⟨b2, 0, none⟩)) a → a.eval (.tmp 3) = .int .i64 ((i : Int) + 1) → Same wr W → Q .normal a W) : cRH1.wp Tryd.prog Q a0 wr := by
  have hii : (i : Int) < 64 := by omega
  have hi8 : (i : Int) < 8 := by omega
  have w1 : IntKind.i64.wrap ((i : Int) + 1) = (i : Int) + 1 := by rw [IntKind.wrap_i64]; omega
  clear hi h8
  have fa0_0 := Fe.refl a0
  unfold cRH1
  refine wp_seq (wp_seq ?_)
  refine wp_region_list ?_
  unfold rRH4
  refine fa0_0.move 6 (.int .i64 (i : Int)) _ (Or.inl rfl) rfl (lb_ I0.size) (wanted_none rfl) ((fa0_0.at_ 3).trans h3) (fun a0_1 fa0_1 => ?_)
  clear fa0_0
  have r_a0_2 : (execOp a0_1.eval { dst := some 7, op := Op.binOp BinOp.lss 3 (Operand.tmp 6) (Operand.const (Value.int IntKind.i64 64)) 3, type := 4, pos := "ref.go:245", after := #[{ on := 0, ground := Ground.data }], guard := none }).run Tryd.prog (wr) = .ok (.value (.bool true)) (wr) := by
    have kc : ∀ v, a0_1.eval (.const v) = v := fun _ => rfl
    have e6 := (show a0_1.eval (.tmp 6) = .int .i64 (i : Int) from (fa0_1.at_ 6))
    clear fa0_1 hQ h3 r1 r2 x1 x2 y1 y2
    generalize a0_1.eval = ρ at *
    go_simp
  refine fa0_1.step 7 (.bool true) rfl (lb_ I0.size) (wanted_none rfl) r_a0_2 (fun a0_2 fa0_2 => ?_)
  clear r_a0_2
  clear fa0_1
  refine wpList_nil ?_
  change Code.wp _ _ _ _ _
  refine wp_cond_true (show a0_2.eval (.tmp 7) = .bool true from (fa0_2.at_ 7)) (wp_skip ?_)
  change Code.wp _ _ _ _ _
  refine wp_seq (wp_block (wp_seq ?_))
  have dd : Same wr wr.drew := (Fr.refl (fun _ => False) wr).drew
  refine wp_region_held_drew (ops := rRH6) (S := fun Z => Same wr Z) (by kernel_rfl) (dd) (fun hS2 => ?_)
  refine fa0_2.takeMove 0 10 (.int .i64 (i : Int)) _ (Or.inl rfl) rfl (by kernel_rfl) (by kernel_rfl) (by kernel_rfl) (fun _ _ _ h => hQp _ _ _ _ _ h) rfl (lb_ I0.size) (wanted_none rfl) ((fa0_2.at_ 3).trans h3) hS2 (fun a0_3 fa0_3 => ?_)
  clear fa0_2
  have r_a0_4 : ∀ Z, (fun Z => Same wr Z) Z → (execOp a0_3.eval { dst := some 11, op := Op.binOp BinOp.lss 3 (Operand.tmp 10) (Operand.const (Value.int IntKind.i64 8)) 3, type := 4, pos := "ref.go:246", after := #[{ on := 0, ground := Ground.data }], guard := none }).run Tryd.prog Z = .ok (.value (.bool true)) Z := fun Z hZ => by
    have kc : ∀ v, a0_3.eval (.const v) = v := fun _ => rfl
    have e10 := (show a0_3.eval (.tmp 10) = .int .i64 (i : Int) from (fa0_3.at_ 10))
    clear fa0_3 hQ h3 r1 r2 x1 x2 y1 y2
    generalize a0_3.eval = ρ at *
    go_simp
  refine fa0_3.take 1 11 (.bool true) rfl (by kernel_rfl) (by kernel_rfl) (by kernel_rfl) (fun _ _ _ h => hQp _ _ _ _ _ h) rfl (lb_ I0.size) (wanted_none rfl) r_a0_4 hS2 (fun a0_4 fa0_4 => ?_)
  clear r_a0_4
  clear fa0_3
  refine fa0_4.takeMove 2 12 (.bool true) _ (Or.inl rfl) rfl (by kernel_rfl) (by kernel_rfl) (by kernel_rfl) (fun _ _ _ h => hQp _ _ _ _ _ h) rfl (lb_ I0.size) (wanted_none rfl) (fa0_4.at_ 11) hS2 (fun a0_5 fa0_5 => ?_)
  clear fa0_4
  have r_a0_6 : ∀ Z, (fun Z => Same wr Z) Z → (execOp a0_5.eval { dst := some 13, op := Op.fieldAddr 25 (Operand.tmp 1) 0, type := 0, pos := "ref.go:246", after := #[{ on := 2, ground := Ground.guard }], guard := some (2, true) }).run Tryd.prog Z = .ok (.value (.pointer (some ⟨b1, 0, none⟩))) Z := fun Z hZ => by
    have e1 := (show a0_5.eval (.tmp 1) = .pointer (some ⟨b1, 0, none⟩) from ((fa0_5.at_ 1).trans I0.s1))
    clear fa0_5 hQ h3 r1 r2 x1 x2 y1 y2
    generalize a0_5.eval = ρ at *
    go_simp
  refine fa0_5.take 3 13 (.pointer (some ⟨b1, 0, none⟩)) rfl (by kernel_rfl) (by kernel_rfl) (by kernel_rfl) (fun _ _ _ h => hQp _ _ _ _ _ h) rfl (lb_ I0.size) ((wanted_at (t := 12) (c := true) (b := true) rfl rfl rfl (lb_ (fa0_5.size.trans I0.size)) (fa0_5.at_ 12)).trans (by rfl)) r_a0_6 hS2 (fun a0_6 fa0_6 => ?_)
  clear r_a0_6
  clear fa0_5
  have r_a0_7 : ∀ Z, (fun Z => Same wr Z) Z → (execOp a0_6.eval { dst := some 14, op := Op.load 23 (Operand.tmp 13), type := 23, pos := "ref.go:246", after := #[{ on := 3, ground := Ground.data }, { on := 2, ground := Ground.guard }], guard := some (2, true) }).run Tryd.prog Z = .ok (.value (.slice (some ⟨g1, 0, none⟩) 8 c1)) Z := fun Z hZ => by
    have zr1 := heap_fr r1 hZ (fun f => f)
    have zr2 := heap_fr r2 hZ (fun f => f)
    have q1 : Z.cell? ⟨b1, 0, none⟩ = some (.slice (some ⟨g1, 0, none⟩) 8 c1) := (cell_of_row _ _ _ _ _ _ zr1).trans rfl
    have q2 : Z.cell? ⟨b1, 1, none⟩ = some (.slice (some ⟨k1, 0, none⟩) 64 d1) := (cell_of_row _ _ _ _ _ _ zr1).trans rfl
    have q3 : Z.cell? ⟨b2, 0, none⟩ = some (.slice (some ⟨g2, 0, none⟩) 8 c2) := (cell_of_row _ _ _ _ _ _ zr2).trans rfl
    have q4 : Z.cell? ⟨b2, 1, none⟩ = some (.slice (some ⟨k2, 0, none⟩) 64 d2) := (cell_of_row _ _ _ _ _ _ zr2).trans rfl
    have q5 := hZ.keep x1
    have q6 := hZ.keep x2
    have q7 := hZ.keep y1
    have q8 := hZ.keep y2
    clear hZ zr1 zr2
    have e13 := (show a0_6.eval (.tmp 13) = .pointer (some ⟨b1, 0, none⟩) from (fa0_6.at_ 13))
    clear fa0_6 hQ h3 r1 r2 x1 x2 y1 y2
    generalize a0_6.eval = ρ at *
    go_simp
  refine fa0_6.take 4 14 (.slice (some ⟨g1, 0, none⟩) 8 c1) rfl (by kernel_rfl) (by kernel_rfl) (by kernel_rfl) (fun _ _ _ h => hQp _ _ _ _ _ h) rfl (lb_ I0.size) ((wanted_at (t := 12) (c := true) (b := true) rfl rfl rfl (lb_ (fa0_6.size.trans I0.size)) (fa0_6.at_ 12)).trans (by rfl)) r_a0_7 hS2 (fun a0_7 fa0_7 => ?_)
  clear r_a0_7
  clear fa0_6
  refine fa0_7.takeMove 5 15 (.int .i64 (i : Int)) _ (Or.inl rfl) rfl (by kernel_rfl) (by kernel_rfl) (by kernel_rfl) (fun _ _ _ h => hQp _ _ _ _ _ h) rfl (lb_ I0.size) ((wanted_at (t := 12) (c := true) (b := true) rfl rfl rfl (lb_ (fa0_7.size.trans I0.size)) (fa0_7.at_ 12)).trans (by rfl)) ((fa0_7.at_ 3).trans h3) hS2 (fun a0_8 fa0_8 => ?_)
  clear fa0_7
  have r_a0_9 : ∀ Z, (fun Z => Same wr Z) Z → (execOp a0_8.eval { dst := some 16, op := Op.indexAddr 23 (Operand.tmp 14) (Operand.tmp 15), type := 0, pos := "ref.go:246", after := #[{ on := 4, ground := Ground.data }, { on := 5, ground := Ground.data }, { on := 2, ground := Ground.guard }], guard := some (2, true) }).run Tryd.prog Z = .ok (.value (.pointer (some ⟨g1, i, none⟩))) Z := fun Z hZ => by
    have e14 := (show a0_8.eval (.tmp 14) = .slice (some ⟨g1, 0, none⟩) 8 c1 from (fa0_8.at_ 14))
    have e15 := (show a0_8.eval (.tmp 15) = .int .i64 (i : Int) from (fa0_8.at_ 15))
    clear fa0_8 hQ h3 r1 r2 x1 x2 y1 y2
    generalize a0_8.eval = ρ at *
    go_simp
  refine fa0_8.take 6 16 (.pointer (some ⟨g1, i, none⟩)) rfl (by kernel_rfl) (by kernel_rfl) (by kernel_rfl) (fun _ _ _ h => hQp _ _ _ _ _ h) rfl (lb_ I0.size) ((wanted_at (t := 12) (c := true) (b := true) rfl rfl rfl (lb_ (fa0_8.size.trans I0.size)) (fa0_8.at_ 12)).trans (by rfl)) r_a0_9 hS2 (fun a0_9 fa0_9 => ?_)
  clear r_a0_9
  clear fa0_8
  have r_a0_10 : ∀ Z, (fun Z => Same wr Z) Z → (execOp a0_9.eval { dst := some 17, op := Op.load 27 (Operand.tmp 16), type := 27, pos := "ref.go:246", after := #[{ on := 6, ground := Ground.data }, { on := 2, ground := Ground.guard }], guard := some (2, true) }).run Tryd.prog Z = .ok (.value (.int .u32 (x : Int))) Z := fun Z hZ => by
    have zr1 := heap_fr r1 hZ (fun f => f)
    have zr2 := heap_fr r2 hZ (fun f => f)
    have q1 : Z.cell? ⟨b1, 0, none⟩ = some (.slice (some ⟨g1, 0, none⟩) 8 c1) := (cell_of_row _ _ _ _ _ _ zr1).trans rfl
    have q2 : Z.cell? ⟨b1, 1, none⟩ = some (.slice (some ⟨k1, 0, none⟩) 64 d1) := (cell_of_row _ _ _ _ _ _ zr1).trans rfl
    have q3 : Z.cell? ⟨b2, 0, none⟩ = some (.slice (some ⟨g2, 0, none⟩) 8 c2) := (cell_of_row _ _ _ _ _ _ zr2).trans rfl
    have q4 : Z.cell? ⟨b2, 1, none⟩ = some (.slice (some ⟨k2, 0, none⟩) 64 d2) := (cell_of_row _ _ _ _ _ _ zr2).trans rfl
    have q5 := hZ.keep x1
    have q6 := hZ.keep x2
    have q7 := hZ.keep y1
    have q8 := hZ.keep y2
    clear hZ zr1 zr2
    have e16 := (show a0_9.eval (.tmp 16) = .pointer (some ⟨g1, i, none⟩) from (fa0_9.at_ 16))
    clear fa0_9 hQ h3 r1 r2 x1 x2 y1 y2
    generalize a0_9.eval = ρ at *
    go_simp
  refine fa0_9.take 7 17 (.int .u32 (x : Int)) rfl (by kernel_rfl) (by kernel_rfl) (by kernel_rfl) (fun _ _ _ h => hQp _ _ _ _ _ h) rfl (lb_ I0.size) ((wanted_at (t := 12) (c := true) (b := true) rfl rfl rfl (lb_ (fa0_9.size.trans I0.size)) (fa0_9.at_ 12)).trans (by rfl)) r_a0_10 hS2 (fun a0_10 fa0_10 => ?_)
  clear r_a0_10
  clear fa0_9
  have r_a0_11 : ∀ Z, (fun Z => Same wr Z) Z → (execOp a0_10.eval { dst := some 18, op := Op.fieldAddr 25 (Operand.tmp 2) 0, type := 0, pos := "ref.go:246", after := #[{ on := 2, ground := Ground.guard }], guard := some (2, true) }).run Tryd.prog Z = .ok (.value (.pointer (some ⟨b2, 0, none⟩))) Z := fun Z hZ => by
    have e2 := (show a0_10.eval (.tmp 2) = .pointer (some ⟨b2, 0, none⟩) from ((fa0_10.at_ 2).trans I0.s2))
    clear fa0_10 hQ h3 r1 r2 x1 x2 y1 y2
    generalize a0_10.eval = ρ at *
    go_simp
  refine fa0_10.take 8 18 (.pointer (some ⟨b2, 0, none⟩)) rfl (by kernel_rfl) (by kernel_rfl) (by kernel_rfl) (fun _ _ _ h => hQp _ _ _ _ _ h) rfl (lb_ I0.size) ((wanted_at (t := 12) (c := true) (b := true) rfl rfl rfl (lb_ (fa0_10.size.trans I0.size)) (fa0_10.at_ 12)).trans (by rfl)) r_a0_11 hS2 (fun a0_11 fa0_11 => ?_)
  clear r_a0_11
  clear fa0_10
  have r_a0_12 : ∀ Z, (fun Z => Same wr Z) Z → (execOp a0_11.eval { dst := some 19, op := Op.load 23 (Operand.tmp 18), type := 23, pos := "ref.go:246", after := #[{ on := 8, ground := Ground.data }, { on := 2, ground := Ground.guard }], guard := some (2, true) }).run Tryd.prog Z = .ok (.value (.slice (some ⟨g2, 0, none⟩) 8 c2)) Z := fun Z hZ => by
    have zr1 := heap_fr r1 hZ (fun f => f)
    have zr2 := heap_fr r2 hZ (fun f => f)
    have q1 : Z.cell? ⟨b1, 0, none⟩ = some (.slice (some ⟨g1, 0, none⟩) 8 c1) := (cell_of_row _ _ _ _ _ _ zr1).trans rfl
    have q2 : Z.cell? ⟨b1, 1, none⟩ = some (.slice (some ⟨k1, 0, none⟩) 64 d1) := (cell_of_row _ _ _ _ _ _ zr1).trans rfl
    have q3 : Z.cell? ⟨b2, 0, none⟩ = some (.slice (some ⟨g2, 0, none⟩) 8 c2) := (cell_of_row _ _ _ _ _ _ zr2).trans rfl
    have q4 : Z.cell? ⟨b2, 1, none⟩ = some (.slice (some ⟨k2, 0, none⟩) 64 d2) := (cell_of_row _ _ _ _ _ _ zr2).trans rfl
    have q5 := hZ.keep x1
    have q6 := hZ.keep x2
    have q7 := hZ.keep y1
    have q8 := hZ.keep y2
    clear hZ zr1 zr2
    have e18 := (show a0_11.eval (.tmp 18) = .pointer (some ⟨b2, 0, none⟩) from (fa0_11.at_ 18))
    clear fa0_11 hQ h3 r1 r2 x1 x2 y1 y2
    generalize a0_11.eval = ρ at *
    go_simp
  refine fa0_11.take 9 19 (.slice (some ⟨g2, 0, none⟩) 8 c2) rfl (by kernel_rfl) (by kernel_rfl) (by kernel_rfl) (fun _ _ _ h => hQp _ _ _ _ _ h) rfl (lb_ I0.size) ((wanted_at (t := 12) (c := true) (b := true) rfl rfl rfl (lb_ (fa0_11.size.trans I0.size)) (fa0_11.at_ 12)).trans (by rfl)) r_a0_12 hS2 (fun a0_12 fa0_12 => ?_)
  clear r_a0_12
  clear fa0_11
  refine fa0_12.takeMove 10 20 (.int .i64 (i : Int)) _ (Or.inl rfl) rfl (by kernel_rfl) (by kernel_rfl) (by kernel_rfl) (fun _ _ _ h => hQp _ _ _ _ _ h) rfl (lb_ I0.size) ((wanted_at (t := 12) (c := true) (b := true) rfl rfl rfl (lb_ (fa0_12.size.trans I0.size)) (fa0_12.at_ 12)).trans (by rfl)) ((fa0_12.at_ 3).trans h3) hS2 (fun a0_13 fa0_13 => ?_)
  clear fa0_12
  have r_a0_14 : ∀ Z, (fun Z => Same wr Z) Z → (execOp a0_13.eval { dst := some 21, op := Op.indexAddr 23 (Operand.tmp 19) (Operand.tmp 20), type := 0, pos := "ref.go:246", after := #[{ on := 9, ground := Ground.data }, { on := 10, ground := Ground.data }, { on := 2, ground := Ground.guard }], guard := some (2, true) }).run Tryd.prog Z = .ok (.value (.pointer (some ⟨g2, i, none⟩))) Z := fun Z hZ => by
    have e19 := (show a0_13.eval (.tmp 19) = .slice (some ⟨g2, 0, none⟩) 8 c2 from (fa0_13.at_ 19))
    have e20 := (show a0_13.eval (.tmp 20) = .int .i64 (i : Int) from (fa0_13.at_ 20))
    clear fa0_13 hQ h3 r1 r2 x1 x2 y1 y2
    generalize a0_13.eval = ρ at *
    go_simp
  refine fa0_13.take 11 21 (.pointer (some ⟨g2, i, none⟩)) rfl (by kernel_rfl) (by kernel_rfl) (by kernel_rfl) (fun _ _ _ h => hQp _ _ _ _ _ h) rfl (lb_ I0.size) ((wanted_at (t := 12) (c := true) (b := true) rfl rfl rfl (lb_ (fa0_13.size.trans I0.size)) (fa0_13.at_ 12)).trans (by rfl)) r_a0_14 hS2 (fun a0_14 fa0_14 => ?_)
  clear r_a0_14
  clear fa0_13
  have r_a0_15 : ∀ Z, (fun Z => Same wr Z) Z → (execOp a0_14.eval { dst := some 22, op := Op.load 27 (Operand.tmp 21), type := 27, pos := "ref.go:246", after := #[{ on := 11, ground := Ground.data }, { on := 2, ground := Ground.guard }], guard := some (2, true) }).run Tryd.prog Z = .ok (.value (.int .u32 (x : Int))) Z := fun Z hZ => by
    have zr1 := heap_fr r1 hZ (fun f => f)
    have zr2 := heap_fr r2 hZ (fun f => f)
    have q1 : Z.cell? ⟨b1, 0, none⟩ = some (.slice (some ⟨g1, 0, none⟩) 8 c1) := (cell_of_row _ _ _ _ _ _ zr1).trans rfl
    have q2 : Z.cell? ⟨b1, 1, none⟩ = some (.slice (some ⟨k1, 0, none⟩) 64 d1) := (cell_of_row _ _ _ _ _ _ zr1).trans rfl
    have q3 : Z.cell? ⟨b2, 0, none⟩ = some (.slice (some ⟨g2, 0, none⟩) 8 c2) := (cell_of_row _ _ _ _ _ _ zr2).trans rfl
    have q4 : Z.cell? ⟨b2, 1, none⟩ = some (.slice (some ⟨k2, 0, none⟩) 64 d2) := (cell_of_row _ _ _ _ _ _ zr2).trans rfl
    have q5 := hZ.keep x1
    have q6 := hZ.keep x2
    have q7 := hZ.keep y1
    have q8 := hZ.keep y2
    clear hZ zr1 zr2
    have e21 := (show a0_14.eval (.tmp 21) = .pointer (some ⟨g2, i, none⟩) from (fa0_14.at_ 21))
    clear fa0_14 hQ h3 r1 r2 x1 x2 y1 y2
    generalize a0_14.eval = ρ at *
    go_simp
  refine fa0_14.take 12 22 (.int .u32 (x : Int)) rfl (by kernel_rfl) (by kernel_rfl) (by kernel_rfl) (fun _ _ _ h => hQp _ _ _ _ _ h) rfl (lb_ I0.size) ((wanted_at (t := 12) (c := true) (b := true) rfl rfl rfl (lb_ (fa0_14.size.trans I0.size)) (fa0_14.at_ 12)).trans (by rfl)) r_a0_15 hS2 (fun a0_15 fa0_15 => ?_)
  clear r_a0_15
  clear fa0_14
  have r_a0_16 : ∀ Z, (fun Z => Same wr Z) Z → (execOp a0_15.eval { dst := some 23, op := Op.binOp BinOp.neq 27 (Operand.tmp 17) (Operand.tmp 22) 27, type := 4, pos := "ref.go:246", after := #[{ on := 7, ground := Ground.data }, { on := 12, ground := Ground.data }, { on := 2, ground := Ground.guard }], guard := some (2, true) }).run Tryd.prog Z = .ok (.value (.bool false)) Z := fun Z hZ => by
    have e17 := (show a0_15.eval (.tmp 17) = .int .u32 (x : Int) from (fa0_15.at_ 17))
    have e22 := (show a0_15.eval (.tmp 22) = .int .u32 (x : Int) from (fa0_15.at_ 22))
    clear fa0_15 hQ h3 r1 r2 x1 x2 y1 y2
    generalize a0_15.eval = ρ at *
    go_simp
  refine fa0_15.take 13 23 (.bool false) rfl (by kernel_rfl) (by kernel_rfl) (by kernel_rfl) (fun _ _ _ h => hQp _ _ _ _ _ h) rfl (lb_ I0.size) ((wanted_at (t := 12) (c := true) (b := true) rfl rfl rfl (lb_ (fa0_15.size.trans I0.size)) (fa0_15.at_ 12)).trans (by rfl)) r_a0_16 hS2 (fun a0_16 fa0_16 => ?_)
  clear r_a0_16
  clear fa0_15
  have r_a0_17 : ∀ Z, (fun Z => Same wr Z) Z → (execOp a0_16.eval { dst := some 24, op := Op.pick (Operand.tmp 12) (Operand.tmp 23) (Operand.const (Value.bool false)), type := 4, pos := "ref.go:246", after := #[{ on := 2, ground := Ground.data }, { on := 13, ground := Ground.data }], guard := none }).run Tryd.prog Z = .ok (.value (.bool false)) Z := fun Z hZ => by
    have kc : ∀ v, a0_16.eval (.const v) = v := fun _ => rfl
    have e12 := (show a0_16.eval (.tmp 12) = .bool true from (fa0_16.at_ 12))
    have e23 := (show a0_16.eval (.tmp 23) = .bool false from (fa0_16.at_ 23))
    clear fa0_16 hQ h3 r1 r2 x1 x2 y1 y2
    generalize a0_16.eval = ρ at *
    go_simp
  refine fa0_16.take 14 24 (.bool false) rfl (by kernel_rfl) (by kernel_rfl) (by kernel_rfl) (fun _ _ _ h => hQp _ _ _ _ _ h) rfl (lb_ I0.size) (wanted_none rfl) r_a0_17 hS2 (fun a0_17 fa0_17 => ?_)
  clear r_a0_17
  clear fa0_16
  refine fa0_17.takeMove 15 25 (.bool false) _ (Or.inl rfl) rfl (by kernel_rfl) (by kernel_rfl) (by kernel_rfl) (fun _ _ _ h => hQp _ _ _ _ _ h) rfl (lb_ I0.size) (wanted_none rfl) (fa0_17.at_ 24) hS2 (fun a0_18 fa0_18 => ?_)
  clear fa0_17
  have r_a0_19 : ∀ Z, (fun Z => Same wr Z) Z → (execOp a0_18.eval { dst := some 26, op := Op.fieldAddr 25 (Operand.tmp 1) 1, type := 0, pos := "ref.go:246", after := #[{ on := 15, ground := Ground.guard }], guard := some (15, false) }).run Tryd.prog Z = .ok (.value (.pointer (some ⟨b1, 1, none⟩))) Z := fun Z hZ => by
    have e1 := (show a0_18.eval (.tmp 1) = .pointer (some ⟨b1, 0, none⟩) from ((fa0_18.at_ 1).trans I0.s1))
    clear fa0_18 hQ h3 r1 r2 x1 x2 y1 y2
    generalize a0_18.eval = ρ at *
    go_simp
  refine fa0_18.take 16 26 (.pointer (some ⟨b1, 1, none⟩)) rfl (by kernel_rfl) (by kernel_rfl) (by kernel_rfl) (fun _ _ _ h => hQp _ _ _ _ _ h) rfl (lb_ I0.size) ((wanted_at (t := 25) (c := false) (b := false) rfl rfl rfl (lb_ (fa0_18.size.trans I0.size)) (fa0_18.at_ 25)).trans (by rfl)) r_a0_19 hS2 (fun a0_19 fa0_19 => ?_)
  clear r_a0_19
  clear fa0_18
  have r_a0_20 : ∀ Z, (fun Z => Same wr Z) Z → (execOp a0_19.eval { dst := some 27, op := Op.load 23 (Operand.tmp 26), type := 23, pos := "ref.go:246", after := #[{ on := 16, ground := Ground.data }, { on := 15, ground := Ground.guard }], guard := some (15, false) }).run Tryd.prog Z = .ok (.value (.slice (some ⟨k1, 0, none⟩) 64 d1)) Z := fun Z hZ => by
    have zr1 := heap_fr r1 hZ (fun f => f)
    have zr2 := heap_fr r2 hZ (fun f => f)
    have q1 : Z.cell? ⟨b1, 0, none⟩ = some (.slice (some ⟨g1, 0, none⟩) 8 c1) := (cell_of_row _ _ _ _ _ _ zr1).trans rfl
    have q2 : Z.cell? ⟨b1, 1, none⟩ = some (.slice (some ⟨k1, 0, none⟩) 64 d1) := (cell_of_row _ _ _ _ _ _ zr1).trans rfl
    have q3 : Z.cell? ⟨b2, 0, none⟩ = some (.slice (some ⟨g2, 0, none⟩) 8 c2) := (cell_of_row _ _ _ _ _ _ zr2).trans rfl
    have q4 : Z.cell? ⟨b2, 1, none⟩ = some (.slice (some ⟨k2, 0, none⟩) 64 d2) := (cell_of_row _ _ _ _ _ _ zr2).trans rfl
    have q5 := hZ.keep x1
    have q6 := hZ.keep x2
    have q7 := hZ.keep y1
    have q8 := hZ.keep y2
    clear hZ zr1 zr2
    have e26 := (show a0_19.eval (.tmp 26) = .pointer (some ⟨b1, 1, none⟩) from (fa0_19.at_ 26))
    clear fa0_19 hQ h3 r1 r2 x1 x2 y1 y2
    generalize a0_19.eval = ρ at *
    go_simp
  refine fa0_19.take 17 27 (.slice (some ⟨k1, 0, none⟩) 64 d1) rfl (by kernel_rfl) (by kernel_rfl) (by kernel_rfl) (fun _ _ _ h => hQp _ _ _ _ _ h) rfl (lb_ I0.size) ((wanted_at (t := 25) (c := false) (b := false) rfl rfl rfl (lb_ (fa0_19.size.trans I0.size)) (fa0_19.at_ 25)).trans (by rfl)) r_a0_20 hS2 (fun a0_20 fa0_20 => ?_)
  clear r_a0_20
  clear fa0_19
  refine fa0_20.takeMove 18 28 (.int .i64 (i : Int)) _ (Or.inl rfl) rfl (by kernel_rfl) (by kernel_rfl) (by kernel_rfl) (fun _ _ _ h => hQp _ _ _ _ _ h) rfl (lb_ I0.size) ((wanted_at (t := 25) (c := false) (b := false) rfl rfl rfl (lb_ (fa0_20.size.trans I0.size)) (fa0_20.at_ 25)).trans (by rfl)) ((fa0_20.at_ 3).trans h3) hS2 (fun a0_21 fa0_21 => ?_)
  clear fa0_20
  have r_a0_22 : ∀ Z, (fun Z => Same wr Z) Z → (execOp a0_21.eval { dst := some 29, op := Op.indexAddr 23 (Operand.tmp 27) (Operand.tmp 28), type := 0, pos := "ref.go:246", after := #[{ on := 17, ground := Ground.data }, { on := 18, ground := Ground.data }, { on := 15, ground := Ground.guard }], guard := some (15, false) }).run Tryd.prog Z = .ok (.value (.pointer (some ⟨k1, i, none⟩))) Z := fun Z hZ => by
    have e27 := (show a0_21.eval (.tmp 27) = .slice (some ⟨k1, 0, none⟩) 64 d1 from (fa0_21.at_ 27))
    have e28 := (show a0_21.eval (.tmp 28) = .int .i64 (i : Int) from (fa0_21.at_ 28))
    clear fa0_21 hQ h3 r1 r2 x1 x2 y1 y2
    generalize a0_21.eval = ρ at *
    go_simp
  refine fa0_21.take 19 29 (.pointer (some ⟨k1, i, none⟩)) rfl (by kernel_rfl) (by kernel_rfl) (by kernel_rfl) (fun _ _ _ h => hQp _ _ _ _ _ h) rfl (lb_ I0.size) ((wanted_at (t := 25) (c := false) (b := false) rfl rfl rfl (lb_ (fa0_21.size.trans I0.size)) (fa0_21.at_ 25)).trans (by rfl)) r_a0_22 hS2 (fun a0_22 fa0_22 => ?_)
  clear r_a0_22
  clear fa0_21
  have r_a0_23 : ∀ Z, (fun Z => Same wr Z) Z → (execOp a0_22.eval { dst := some 30, op := Op.load 27 (Operand.tmp 29), type := 27, pos := "ref.go:246", after := #[{ on := 19, ground := Ground.data }, { on := 15, ground := Ground.guard }], guard := some (15, false) }).run Tryd.prog Z = .ok (.value (.int .u32 (y : Int))) Z := fun Z hZ => by
    have zr1 := heap_fr r1 hZ (fun f => f)
    have zr2 := heap_fr r2 hZ (fun f => f)
    have q1 : Z.cell? ⟨b1, 0, none⟩ = some (.slice (some ⟨g1, 0, none⟩) 8 c1) := (cell_of_row _ _ _ _ _ _ zr1).trans rfl
    have q2 : Z.cell? ⟨b1, 1, none⟩ = some (.slice (some ⟨k1, 0, none⟩) 64 d1) := (cell_of_row _ _ _ _ _ _ zr1).trans rfl
    have q3 : Z.cell? ⟨b2, 0, none⟩ = some (.slice (some ⟨g2, 0, none⟩) 8 c2) := (cell_of_row _ _ _ _ _ _ zr2).trans rfl
    have q4 : Z.cell? ⟨b2, 1, none⟩ = some (.slice (some ⟨k2, 0, none⟩) 64 d2) := (cell_of_row _ _ _ _ _ _ zr2).trans rfl
    have q5 := hZ.keep x1
    have q6 := hZ.keep x2
    have q7 := hZ.keep y1
    have q8 := hZ.keep y2
    clear hZ zr1 zr2
    have e29 := (show a0_22.eval (.tmp 29) = .pointer (some ⟨k1, i, none⟩) from (fa0_22.at_ 29))
    clear fa0_22 hQ h3 r1 r2 x1 x2 y1 y2
    generalize a0_22.eval = ρ at *
    go_simp
  refine fa0_22.take 20 30 (.int .u32 (y : Int)) rfl (by kernel_rfl) (by kernel_rfl) (by kernel_rfl) (fun _ _ _ h => hQp _ _ _ _ _ h) rfl (lb_ I0.size) ((wanted_at (t := 25) (c := false) (b := false) rfl rfl rfl (lb_ (fa0_22.size.trans I0.size)) (fa0_22.at_ 25)).trans (by rfl)) r_a0_23 hS2 (fun a0_23 fa0_23 => ?_)
  clear r_a0_23
  clear fa0_22
  have r_a0_24 : ∀ Z, (fun Z => Same wr Z) Z → (execOp a0_23.eval { dst := some 31, op := Op.fieldAddr 25 (Operand.tmp 2) 1, type := 0, pos := "ref.go:246", after := #[{ on := 15, ground := Ground.guard }], guard := some (15, false) }).run Tryd.prog Z = .ok (.value (.pointer (some ⟨b2, 1, none⟩))) Z := fun Z hZ => by
    have e2 := (show a0_23.eval (.tmp 2) = .pointer (some ⟨b2, 0, none⟩) from ((fa0_23.at_ 2).trans I0.s2))
    clear fa0_23 hQ h3 r1 r2 x1 x2 y1 y2
    generalize a0_23.eval = ρ at *
    go_simp
  refine fa0_23.take 21 31 (.pointer (some ⟨b2, 1, none⟩)) rfl (by kernel_rfl) (by kernel_rfl) (by kernel_rfl) (fun _ _ _ h => hQp _ _ _ _ _ h) rfl (lb_ I0.size) ((wanted_at (t := 25) (c := false) (b := false) rfl rfl rfl (lb_ (fa0_23.size.trans I0.size)) (fa0_23.at_ 25)).trans (by rfl)) r_a0_24 hS2 (fun a0_24 fa0_24 => ?_)
  clear r_a0_24
  clear fa0_23
  have r_a0_25 : ∀ Z, (fun Z => Same wr Z) Z → (execOp a0_24.eval { dst := some 32, op := Op.load 23 (Operand.tmp 31), type := 23, pos := "ref.go:246", after := #[{ on := 21, ground := Ground.data }, { on := 15, ground := Ground.guard }], guard := some (15, false) }).run Tryd.prog Z = .ok (.value (.slice (some ⟨k2, 0, none⟩) 64 d2)) Z := fun Z hZ => by
    have zr1 := heap_fr r1 hZ (fun f => f)
    have zr2 := heap_fr r2 hZ (fun f => f)
    have q1 : Z.cell? ⟨b1, 0, none⟩ = some (.slice (some ⟨g1, 0, none⟩) 8 c1) := (cell_of_row _ _ _ _ _ _ zr1).trans rfl
    have q2 : Z.cell? ⟨b1, 1, none⟩ = some (.slice (some ⟨k1, 0, none⟩) 64 d1) := (cell_of_row _ _ _ _ _ _ zr1).trans rfl
    have q3 : Z.cell? ⟨b2, 0, none⟩ = some (.slice (some ⟨g2, 0, none⟩) 8 c2) := (cell_of_row _ _ _ _ _ _ zr2).trans rfl
    have q4 : Z.cell? ⟨b2, 1, none⟩ = some (.slice (some ⟨k2, 0, none⟩) 64 d2) := (cell_of_row _ _ _ _ _ _ zr2).trans rfl
    have q5 := hZ.keep x1
    have q6 := hZ.keep x2
    have q7 := hZ.keep y1
    have q8 := hZ.keep y2
    clear hZ zr1 zr2
    have e31 := (show a0_24.eval (.tmp 31) = .pointer (some ⟨b2, 1, none⟩) from (fa0_24.at_ 31))
    clear fa0_24 hQ h3 r1 r2 x1 x2 y1 y2
    generalize a0_24.eval = ρ at *
    go_simp
  refine fa0_24.take 22 32 (.slice (some ⟨k2, 0, none⟩) 64 d2) rfl (by kernel_rfl) (by kernel_rfl) (by kernel_rfl) (fun _ _ _ h => hQp _ _ _ _ _ h) rfl (lb_ I0.size) ((wanted_at (t := 25) (c := false) (b := false) rfl rfl rfl (lb_ (fa0_24.size.trans I0.size)) (fa0_24.at_ 25)).trans (by rfl)) r_a0_25 hS2 (fun a0_25 fa0_25 => ?_)
  clear r_a0_25
  clear fa0_24
  refine fa0_25.takeMove 23 33 (.int .i64 (i : Int)) _ (Or.inl rfl) rfl (by kernel_rfl) (by kernel_rfl) (by kernel_rfl) (fun _ _ _ h => hQp _ _ _ _ _ h) rfl (lb_ I0.size) ((wanted_at (t := 25) (c := false) (b := false) rfl rfl rfl (lb_ (fa0_25.size.trans I0.size)) (fa0_25.at_ 25)).trans (by rfl)) ((fa0_25.at_ 3).trans h3) hS2 (fun a0_26 fa0_26 => ?_)
  clear fa0_25
  have r_a0_27 : ∀ Z, (fun Z => Same wr Z) Z → (execOp a0_26.eval { dst := some 34, op := Op.indexAddr 23 (Operand.tmp 32) (Operand.tmp 33), type := 0, pos := "ref.go:246", after := #[{ on := 22, ground := Ground.data }, { on := 23, ground := Ground.data }, { on := 15, ground := Ground.guard }], guard := some (15, false) }).run Tryd.prog Z = .ok (.value (.pointer (some ⟨k2, i, none⟩))) Z := fun Z hZ => by
    have e32 := (show a0_26.eval (.tmp 32) = .slice (some ⟨k2, 0, none⟩) 64 d2 from (fa0_26.at_ 32))
    have e33 := (show a0_26.eval (.tmp 33) = .int .i64 (i : Int) from (fa0_26.at_ 33))
    clear fa0_26 hQ h3 r1 r2 x1 x2 y1 y2
    generalize a0_26.eval = ρ at *
    go_simp
  refine fa0_26.take 24 34 (.pointer (some ⟨k2, i, none⟩)) rfl (by kernel_rfl) (by kernel_rfl) (by kernel_rfl) (fun _ _ _ h => hQp _ _ _ _ _ h) rfl (lb_ I0.size) ((wanted_at (t := 25) (c := false) (b := false) rfl rfl rfl (lb_ (fa0_26.size.trans I0.size)) (fa0_26.at_ 25)).trans (by rfl)) r_a0_27 hS2 (fun a0_27 fa0_27 => ?_)
  clear r_a0_27
  clear fa0_26
  have r_a0_28 : ∀ Z, (fun Z => Same wr Z) Z → (execOp a0_27.eval { dst := some 35, op := Op.load 27 (Operand.tmp 34), type := 27, pos := "ref.go:246", after := #[{ on := 24, ground := Ground.data }, { on := 15, ground := Ground.guard }], guard := some (15, false) }).run Tryd.prog Z = .ok (.value (.int .u32 (y : Int))) Z := fun Z hZ => by
    have zr1 := heap_fr r1 hZ (fun f => f)
    have zr2 := heap_fr r2 hZ (fun f => f)
    have q1 : Z.cell? ⟨b1, 0, none⟩ = some (.slice (some ⟨g1, 0, none⟩) 8 c1) := (cell_of_row _ _ _ _ _ _ zr1).trans rfl
    have q2 : Z.cell? ⟨b1, 1, none⟩ = some (.slice (some ⟨k1, 0, none⟩) 64 d1) := (cell_of_row _ _ _ _ _ _ zr1).trans rfl
    have q3 : Z.cell? ⟨b2, 0, none⟩ = some (.slice (some ⟨g2, 0, none⟩) 8 c2) := (cell_of_row _ _ _ _ _ _ zr2).trans rfl
    have q4 : Z.cell? ⟨b2, 1, none⟩ = some (.slice (some ⟨k2, 0, none⟩) 64 d2) := (cell_of_row _ _ _ _ _ _ zr2).trans rfl
    have q5 := hZ.keep x1
    have q6 := hZ.keep x2
    have q7 := hZ.keep y1
    have q8 := hZ.keep y2
    clear hZ zr1 zr2
    have e34 := (show a0_27.eval (.tmp 34) = .pointer (some ⟨k2, i, none⟩) from (fa0_27.at_ 34))
    clear fa0_27 hQ h3 r1 r2 x1 x2 y1 y2
    generalize a0_27.eval = ρ at *
    go_simp
  refine fa0_27.take 25 35 (.int .u32 (y : Int)) rfl (by kernel_rfl) (by kernel_rfl) (by kernel_rfl) (fun _ _ _ h => hQp _ _ _ _ _ h) rfl (lb_ I0.size) ((wanted_at (t := 25) (c := false) (b := false) rfl rfl rfl (lb_ (fa0_27.size.trans I0.size)) (fa0_27.at_ 25)).trans (by rfl)) r_a0_28 hS2 (fun a0_28 fa0_28 => ?_)
  clear r_a0_28
  clear fa0_27
  have r_a0_29 : ∀ Z, (fun Z => Same wr Z) Z → (execOp a0_28.eval { dst := some 36, op := Op.binOp BinOp.neq 27 (Operand.tmp 30) (Operand.tmp 35) 27, type := 4, pos := "ref.go:246", after := #[{ on := 20, ground := Ground.data }, { on := 25, ground := Ground.data }, { on := 15, ground := Ground.guard }], guard := some (15, false) }).run Tryd.prog Z = .ok (.value (.bool false)) Z := fun Z hZ => by
    have e30 := (show a0_28.eval (.tmp 30) = .int .u32 (y : Int) from (fa0_28.at_ 30))
    have e35 := (show a0_28.eval (.tmp 35) = .int .u32 (y : Int) from (fa0_28.at_ 35))
    clear fa0_28 hQ h3 r1 r2 x1 x2 y1 y2
    generalize a0_28.eval = ρ at *
    go_simp
  refine fa0_28.take 26 36 (.bool false) rfl (by kernel_rfl) (by kernel_rfl) (by kernel_rfl) (fun _ _ _ h => hQp _ _ _ _ _ h) rfl (lb_ I0.size) ((wanted_at (t := 25) (c := false) (b := false) rfl rfl rfl (lb_ (fa0_28.size.trans I0.size)) (fa0_28.at_ 25)).trans (by rfl)) r_a0_29 hS2 (fun a0_29 fa0_29 => ?_)
  clear r_a0_29
  clear fa0_28
  have r_a0_30 : ∀ Z, (fun Z => Same wr Z) Z → (execOp a0_29.eval { dst := some 37, op := Op.pick (Operand.tmp 25) (Operand.const (Value.bool true)) (Operand.tmp 36), type := 4, pos := "ref.go:246", after := #[{ on := 15, ground := Ground.data }, { on := 26, ground := Ground.data }], guard := none }).run Tryd.prog Z = .ok (.value (.bool false)) Z := fun Z hZ => by
    have kc : ∀ v, a0_29.eval (.const v) = v := fun _ => rfl
    have e25 := (show a0_29.eval (.tmp 25) = .bool false from (fa0_29.at_ 25))
    have e36 := (show a0_29.eval (.tmp 36) = .bool false from (fa0_29.at_ 36))
    clear fa0_29 hQ h3 r1 r2 x1 x2 y1 y2
    generalize a0_29.eval = ρ at *
    go_simp
  refine fa0_29.take 27 37 (.bool false) rfl (by kernel_rfl) (by kernel_rfl) (by kernel_rfl) (fun _ _ _ h => hQp _ _ _ _ _ h) rfl (lb_ I0.size) (wanted_none rfl) r_a0_30 hS2 (fun a0_30 fa0_30 => ?_)
  clear r_a0_30
  clear fa0_29
  refine wpAnyH_done (by kernel_rfl) ?_ _
  change Code.wp _ _ _ _ _
  refine wp_cond_false (show a0_30.eval (.tmp 37) = .bool false from (fa0_30.at_ 37)) (wp_skip ?_)
  change Code.wp _ _ _ _ _
  refine wp_region_list ?_
  unfold rRH5
  refine fa0_30.move 8 (.int .i64 (i : Int)) _ (Or.inl rfl) rfl (lb_ I0.size) (wanted_none rfl) ((fa0_30.at_ 3).trans h3) (fun a0_31 fa0_31 => ?_)
  clear fa0_30
  have r_a0_32 : (execOp a0_31.eval { dst := some 9, op := Op.binOp BinOp.add 3 (Operand.tmp 8) (Operand.const (Value.int IntKind.i64 1)) 3, type := 3, pos := "ref.go:245", after := #[{ on := 0, ground := Ground.data }], guard := none }).run Tryd.prog (wr.drew) = .ok (.value (.int .i64 ((i : Int) + 1))) (wr.drew) := by
    have kc : ∀ v, a0_31.eval (.const v) = v := fun _ => rfl
    have e8 := (show a0_31.eval (.tmp 8) = .int .i64 (i : Int) from (fa0_31.at_ 8))
    clear fa0_31 hQ h3 r1 r2 x1 x2 y1 y2
    generalize a0_31.eval = ρ at *
    go_simp
  refine fa0_31.step 9 (.int .i64 ((i : Int) + 1)) rfl (lb_ I0.size) (wanted_none rfl) r_a0_32 (fun a0_32 fa0_32 => ?_)
  clear r_a0_32
  clear fa0_31
  refine fa0_32.move 3 (.int .i64 ((i : Int) + 1)) _ (Or.inr rfl) rfl (lb_ I0.size) (wanted_none rfl) (fa0_32.at_ 9) (fun a0_33 fa0_33 => ?_)
  clear fa0_32
  refine wpList_nil ?_
  exact hQ a0_33 wr.drew (I0.keep fa0_33 rfl rfl) (show a0_33.eval (.tmp 3) = .int .i64 ((i : Int) + 1) from (fa0_33.at_ 3)) dd
set_option maxRecDepth 100000 in
set_option maxHeartbeats 2000000 in
theorem rhB {b1 b2 i g1 g2 k1 k2 c1 c2 d1 d2 y : Nat} {Q : Exit → Act → World → Prop} (hQp : ∀ c (a : Act) d v w, Q (.panic c) (a.put d v) w → Q (.panic c) a w) (a0 : Act) (wr : World) (I0 : IRH (.pointer (some ⟨b1, 0, none⟩)) (.pointer (some ⟨b2, 0, none⟩)) a0) (h3 : a0.eval (.tmp 3) = .int .i64 (i : Int)) (hi : i < 64) (h8 : 8 ≤ i) (r1 : wr.heap[b1]? = some (.cells #[.slice (some ⟨g1, 0, none⟩) 8 c1, .slice (some ⟨k1, 0, none⟩) 64 d1] 25 (0, 0))) (r2 : wr.heap[b2]? = some (.cells #[.slice (some ⟨g2, 0, none⟩) 8 c2, .slice (some ⟨k2, 0, none⟩) 64 d2] 25 (0, 0)))
    (y1 : wr.cell? ⟨k1, i, none⟩ = some (.int .u32 (y : Int))) (y2 : wr.cell? ⟨k2, i, none⟩ = some (.int .u32 (y : Int))) (hQ : ∀ a W, IRH (.pointer (some ⟨b1, 0, none⟩)) (.pointer (some ⟨b2, 0, none⟩)) a → a.eval (.tmp 3) = .int .i64 ((i : Int) + 1) → Same wr W → Q .normal a W) : cRH1.wp Tryd.prog Q a0 wr := by
  have hii : (i : Int) < 64 := by omega
  have hi8 : ¬ (i : Int) < 8 := by omega
  have w1 : IntKind.i64.wrap ((i : Int) + 1) = (i : Int) + 1 := by rw [IntKind.wrap_i64]; omega
  clear hi h8
  have fa0_0 := Fe.refl a0
  unfold cRH1
  refine wp_seq (wp_seq ?_)
  refine wp_region_list ?_
  unfold rRH4
  refine fa0_0.move 6 (.int .i64 (i : Int)) _ (Or.inl rfl) rfl (lb_ I0.size) (wanted_none rfl) ((fa0_0.at_ 3).trans h3) (fun a0_1 fa0_1 => ?_)
  clear fa0_0
  have r_a0_2 : (execOp a0_1.eval { dst := some 7, op := Op.binOp BinOp.lss 3 (Operand.tmp 6) (Operand.const (Value.int IntKind.i64 64)) 3, type := 4, pos := "ref.go:245", after := #[{ on := 0, ground := Ground.data }], guard := none }).run Tryd.prog (wr) = .ok (.value (.bool true)) (wr) := by
    have kc : ∀ v, a0_1.eval (.const v) = v := fun _ => rfl
    have e6 := (show a0_1.eval (.tmp 6) = .int .i64 (i : Int) from (fa0_1.at_ 6))
    clear fa0_1 hQ h3 r1 r2 y1 y2
    generalize a0_1.eval = ρ at *
    go_simp
  refine fa0_1.step 7 (.bool true) rfl (lb_ I0.size) (wanted_none rfl) r_a0_2 (fun a0_2 fa0_2 => ?_)
  clear r_a0_2
  clear fa0_1
  refine wpList_nil ?_
  change Code.wp _ _ _ _ _
  refine wp_cond_true (show a0_2.eval (.tmp 7) = .bool true from (fa0_2.at_ 7)) (wp_skip ?_)
  change Code.wp _ _ _ _ _
  refine wp_seq (wp_block (wp_seq ?_))
  have dd : Same wr wr.drew := (Fr.refl (fun _ => False) wr).drew
  refine wp_region_held_drew (ops := rRH6) (S := fun Z => Same wr Z) (by kernel_rfl) (dd) (fun hS2 => ?_)
  refine fa0_2.takeMove 0 10 (.int .i64 (i : Int)) _ (Or.inl rfl) rfl (by kernel_rfl) (by kernel_rfl) (by kernel_rfl) (fun _ _ _ h => hQp _ _ _ _ _ h) rfl (lb_ I0.size) (wanted_none rfl) ((fa0_2.at_ 3).trans h3) hS2 (fun a0_3 fa0_3 => ?_)
  clear fa0_2
  have r_a0_4 : ∀ Z, (fun Z => Same wr Z) Z → (execOp a0_3.eval { dst := some 11, op := Op.binOp BinOp.lss 3 (Operand.tmp 10) (Operand.const (Value.int IntKind.i64 8)) 3, type := 4, pos := "ref.go:246", after := #[{ on := 0, ground := Ground.data }], guard := none }).run Tryd.prog Z = .ok (.value (.bool false)) Z := fun Z hZ => by
    have kc : ∀ v, a0_3.eval (.const v) = v := fun _ => rfl
    have e10 := (show a0_3.eval (.tmp 10) = .int .i64 (i : Int) from (fa0_3.at_ 10))
    clear fa0_3 hQ h3 r1 r2 y1 y2
    generalize a0_3.eval = ρ at *
    go_simp
  refine fa0_3.take 1 11 (.bool false) rfl (by kernel_rfl) (by kernel_rfl) (by kernel_rfl) (fun _ _ _ h => hQp _ _ _ _ _ h) rfl (lb_ I0.size) (wanted_none rfl) r_a0_4 hS2 (fun a0_4 fa0_4 => ?_)
  clear r_a0_4
  clear fa0_3
  refine fa0_4.takeMove 2 12 (.bool false) _ (Or.inl rfl) rfl (by kernel_rfl) (by kernel_rfl) (by kernel_rfl) (fun _ _ _ h => hQp _ _ _ _ _ h) rfl (lb_ I0.size) (wanted_none rfl) (fa0_4.at_ 11) hS2 (fun a0_5 fa0_5 => ?_)
  clear fa0_4
  refine fa0_5.takeOff 3 13 rfl (by kernel_rfl) (by kernel_rfl) (by kernel_rfl) (fun _ _ _ h => hQp _ _ _ _ _ h) rfl (lb_ I0.size) ((wanted_at (t := 12) (c := false) (b := true) rfl rfl rfl (lb_ (fa0_5.size.trans I0.size)) (fa0_5.at_ 12)).trans (by rfl)) hS2 (fun a0_6 fa0_6 => ?_)
  clear fa0_5
  refine fa0_6.takeOff 4 14 rfl (by kernel_rfl) (by kernel_rfl) (by kernel_rfl) (fun _ _ _ h => hQp _ _ _ _ _ h) rfl (lb_ I0.size) ((wanted_at (t := 12) (c := false) (b := true) rfl rfl rfl (lb_ (fa0_6.size.trans I0.size)) (fa0_6.at_ 12)).trans (by rfl)) hS2 (fun a0_7 fa0_7 => ?_)
  clear fa0_6
  refine fa0_7.takeOff 5 15 rfl (by kernel_rfl) (by kernel_rfl) (by kernel_rfl) (fun _ _ _ h => hQp _ _ _ _ _ h) rfl (lb_ I0.size) ((wanted_at (t := 12) (c := false) (b := true) rfl rfl rfl (lb_ (fa0_7.size.trans I0.size)) (fa0_7.at_ 12)).trans (by rfl)) hS2 (fun a0_8 fa0_8 => ?_)
  clear fa0_7
  refine fa0_8.takeOff 6 16 rfl (by kernel_rfl) (by kernel_rfl) (by kernel_rfl) (fun _ _ _ h => hQp _ _ _ _ _ h) rfl (lb_ I0.size) ((wanted_at (t := 12) (c := false) (b := true) rfl rfl rfl (lb_ (fa0_8.size.trans I0.size)) (fa0_8.at_ 12)).trans (by rfl)) hS2 (fun a0_9 fa0_9 => ?_)
  clear fa0_8
  refine fa0_9.takeOff 7 17 rfl (by kernel_rfl) (by kernel_rfl) (by kernel_rfl) (fun _ _ _ h => hQp _ _ _ _ _ h) rfl (lb_ I0.size) ((wanted_at (t := 12) (c := false) (b := true) rfl rfl rfl (lb_ (fa0_9.size.trans I0.size)) (fa0_9.at_ 12)).trans (by rfl)) hS2 (fun a0_10 fa0_10 => ?_)
  clear fa0_9
  refine fa0_10.takeOff 8 18 rfl (by kernel_rfl) (by kernel_rfl) (by kernel_rfl) (fun _ _ _ h => hQp _ _ _ _ _ h) rfl (lb_ I0.size) ((wanted_at (t := 12) (c := false) (b := true) rfl rfl rfl (lb_ (fa0_10.size.trans I0.size)) (fa0_10.at_ 12)).trans (by rfl)) hS2 (fun a0_11 fa0_11 => ?_)
  clear fa0_10
  refine fa0_11.takeOff 9 19 rfl (by kernel_rfl) (by kernel_rfl) (by kernel_rfl) (fun _ _ _ h => hQp _ _ _ _ _ h) rfl (lb_ I0.size) ((wanted_at (t := 12) (c := false) (b := true) rfl rfl rfl (lb_ (fa0_11.size.trans I0.size)) (fa0_11.at_ 12)).trans (by rfl)) hS2 (fun a0_12 fa0_12 => ?_)
  clear fa0_11
  refine fa0_12.takeOff 10 20 rfl (by kernel_rfl) (by kernel_rfl) (by kernel_rfl) (fun _ _ _ h => hQp _ _ _ _ _ h) rfl (lb_ I0.size) ((wanted_at (t := 12) (c := false) (b := true) rfl rfl rfl (lb_ (fa0_12.size.trans I0.size)) (fa0_12.at_ 12)).trans (by rfl)) hS2 (fun a0_13 fa0_13 => ?_)
  clear fa0_12
  refine fa0_13.takeOff 11 21 rfl (by kernel_rfl) (by kernel_rfl) (by kernel_rfl) (fun _ _ _ h => hQp _ _ _ _ _ h) rfl (lb_ I0.size) ((wanted_at (t := 12) (c := false) (b := true) rfl rfl rfl (lb_ (fa0_13.size.trans I0.size)) (fa0_13.at_ 12)).trans (by rfl)) hS2 (fun a0_14 fa0_14 => ?_)
  clear fa0_13
  refine fa0_14.takeOff 12 22 rfl (by kernel_rfl) (by kernel_rfl) (by kernel_rfl) (fun _ _ _ h => hQp _ _ _ _ _ h) rfl (lb_ I0.size) ((wanted_at (t := 12) (c := false) (b := true) rfl rfl rfl (lb_ (fa0_14.size.trans I0.size)) (fa0_14.at_ 12)).trans (by rfl)) hS2 (fun a0_15 fa0_15 => ?_)
  clear fa0_14
  refine fa0_15.takeOff 13 23 rfl (by kernel_rfl) (by kernel_rfl) (by kernel_rfl) (fun _ _ _ h => hQp _ _ _ _ _ h) rfl (lb_ I0.size) ((wanted_at (t := 12) (c := false) (b := true) rfl rfl rfl (lb_ (fa0_15.size.trans I0.size)) (fa0_15.at_ 12)).trans (by rfl)) hS2 (fun a0_16 fa0_16 => ?_)
  clear fa0_15
  have r_a0_17 : ∀ Z, (fun Z => Same wr Z) Z → (execOp a0_16.eval { dst := some 24, op := Op.pick (Operand.tmp 12) (Operand.tmp 23) (Operand.const (Value.bool false)), type := 4, pos := "ref.go:246", after := #[{ on := 2, ground := Ground.data }, { on := 13, ground := Ground.data }], guard := none }).run Tryd.prog Z = .ok (.value (.bool false)) Z := fun Z hZ => by
    have kc : ∀ v, a0_16.eval (.const v) = v := fun _ => rfl
    have e12 := (show a0_16.eval (.tmp 12) = .bool false from (fa0_16.at_ 12))
    have e23 := (show a0_16.eval (.tmp 23) = undef from (fa0_16.at_ 23))
    clear fa0_16 hQ h3 r1 r2 y1 y2
    generalize a0_16.eval = ρ at *
    go_simp
  refine fa0_16.take 14 24 (.bool false) rfl (by kernel_rfl) (by kernel_rfl) (by kernel_rfl) (fun _ _ _ h => hQp _ _ _ _ _ h) rfl (lb_ I0.size) (wanted_none rfl) r_a0_17 hS2 (fun a0_17 fa0_17 => ?_)
  clear r_a0_17
  clear fa0_16
  refine fa0_17.takeMove 15 25 (.bool false) _ (Or.inl rfl) rfl (by kernel_rfl) (by kernel_rfl) (by kernel_rfl) (fun _ _ _ h => hQp _ _ _ _ _ h) rfl (lb_ I0.size) (wanted_none rfl) (fa0_17.at_ 24) hS2 (fun a0_18 fa0_18 => ?_)
  clear fa0_17
  have r_a0_19 : ∀ Z, (fun Z => Same wr Z) Z → (execOp a0_18.eval { dst := some 26, op := Op.fieldAddr 25 (Operand.tmp 1) 1, type := 0, pos := "ref.go:246", after := #[{ on := 15, ground := Ground.guard }], guard := some (15, false) }).run Tryd.prog Z = .ok (.value (.pointer (some ⟨b1, 1, none⟩))) Z := fun Z hZ => by
    have e1 := (show a0_18.eval (.tmp 1) = .pointer (some ⟨b1, 0, none⟩) from ((fa0_18.at_ 1).trans I0.s1))
    clear fa0_18 hQ h3 r1 r2 y1 y2
    generalize a0_18.eval = ρ at *
    go_simp
  refine fa0_18.take 16 26 (.pointer (some ⟨b1, 1, none⟩)) rfl (by kernel_rfl) (by kernel_rfl) (by kernel_rfl) (fun _ _ _ h => hQp _ _ _ _ _ h) rfl (lb_ I0.size) ((wanted_at (t := 25) (c := false) (b := false) rfl rfl rfl (lb_ (fa0_18.size.trans I0.size)) (fa0_18.at_ 25)).trans (by rfl)) r_a0_19 hS2 (fun a0_19 fa0_19 => ?_)
  clear r_a0_19
  clear fa0_18
  have r_a0_20 : ∀ Z, (fun Z => Same wr Z) Z → (execOp a0_19.eval { dst := some 27, op := Op.load 23 (Operand.tmp 26), type := 23, pos := "ref.go:246", after := #[{ on := 16, ground := Ground.data }, { on := 15, ground := Ground.guard }], guard := some (15, false) }).run Tryd.prog Z = .ok (.value (.slice (some ⟨k1, 0, none⟩) 64 d1)) Z := fun Z hZ => by
    have zr1 := heap_fr r1 hZ (fun f => f)
    have zr2 := heap_fr r2 hZ (fun f => f)
    have q1 : Z.cell? ⟨b1, 0, none⟩ = some (.slice (some ⟨g1, 0, none⟩) 8 c1) := (cell_of_row _ _ _ _ _ _ zr1).trans rfl
    have q2 : Z.cell? ⟨b1, 1, none⟩ = some (.slice (some ⟨k1, 0, none⟩) 64 d1) := (cell_of_row _ _ _ _ _ _ zr1).trans rfl
    have q3 : Z.cell? ⟨b2, 0, none⟩ = some (.slice (some ⟨g2, 0, none⟩) 8 c2) := (cell_of_row _ _ _ _ _ _ zr2).trans rfl
    have q4 : Z.cell? ⟨b2, 1, none⟩ = some (.slice (some ⟨k2, 0, none⟩) 64 d2) := (cell_of_row _ _ _ _ _ _ zr2).trans rfl
    have q7 := hZ.keep y1
    have q8 := hZ.keep y2
    clear hZ zr1 zr2
    have e26 := (show a0_19.eval (.tmp 26) = .pointer (some ⟨b1, 1, none⟩) from (fa0_19.at_ 26))
    clear fa0_19 hQ h3 r1 r2 y1 y2
    generalize a0_19.eval = ρ at *
    go_simp
  refine fa0_19.take 17 27 (.slice (some ⟨k1, 0, none⟩) 64 d1) rfl (by kernel_rfl) (by kernel_rfl) (by kernel_rfl) (fun _ _ _ h => hQp _ _ _ _ _ h) rfl (lb_ I0.size) ((wanted_at (t := 25) (c := false) (b := false) rfl rfl rfl (lb_ (fa0_19.size.trans I0.size)) (fa0_19.at_ 25)).trans (by rfl)) r_a0_20 hS2 (fun a0_20 fa0_20 => ?_)
  clear r_a0_20
  clear fa0_19
  refine fa0_20.takeMove 18 28 (.int .i64 (i : Int)) _ (Or.inl rfl) rfl (by kernel_rfl) (by kernel_rfl) (by kernel_rfl) (fun _ _ _ h => hQp _ _ _ _ _ h) rfl (lb_ I0.size) ((wanted_at (t := 25) (c := false) (b := false) rfl rfl rfl (lb_ (fa0_20.size.trans I0.size)) (fa0_20.at_ 25)).trans (by rfl)) ((fa0_20.at_ 3).trans h3) hS2 (fun a0_21 fa0_21 => ?_)
  clear fa0_20
  have r_a0_22 : ∀ Z, (fun Z => Same wr Z) Z → (execOp a0_21.eval { dst := some 29, op := Op.indexAddr 23 (Operand.tmp 27) (Operand.tmp 28), type := 0, pos := "ref.go:246", after := #[{ on := 17, ground := Ground.data }, { on := 18, ground := Ground.data }, { on := 15, ground := Ground.guard }], guard := some (15, false) }).run Tryd.prog Z = .ok (.value (.pointer (some ⟨k1, i, none⟩))) Z := fun Z hZ => by
    have e27 := (show a0_21.eval (.tmp 27) = .slice (some ⟨k1, 0, none⟩) 64 d1 from (fa0_21.at_ 27))
    have e28 := (show a0_21.eval (.tmp 28) = .int .i64 (i : Int) from (fa0_21.at_ 28))
    clear fa0_21 hQ h3 r1 r2 y1 y2
    generalize a0_21.eval = ρ at *
    go_simp
  refine fa0_21.take 19 29 (.pointer (some ⟨k1, i, none⟩)) rfl (by kernel_rfl) (by kernel_rfl) (by kernel_rfl) (fun _ _ _ h => hQp _ _ _ _ _ h) rfl (lb_ I0.size) ((wanted_at (t := 25) (c := false) (b := false) rfl rfl rfl (lb_ (fa0_21.size.trans I0.size)) (fa0_21.at_ 25)).trans (by rfl)) r_a0_22 hS2 (fun a0_22 fa0_22 => ?_)
  clear r_a0_22
  clear fa0_21
  have r_a0_23 : ∀ Z, (fun Z => Same wr Z) Z → (execOp a0_22.eval { dst := some 30, op := Op.load 27 (Operand.tmp 29), type := 27, pos := "ref.go:246", after := #[{ on := 19, ground := Ground.data }, { on := 15, ground := Ground.guard }], guard := some (15, false) }).run Tryd.prog Z = .ok (.value (.int .u32 (y : Int))) Z := fun Z hZ => by
    have zr1 := heap_fr r1 hZ (fun f => f)
    have zr2 := heap_fr r2 hZ (fun f => f)
    have q1 : Z.cell? ⟨b1, 0, none⟩ = some (.slice (some ⟨g1, 0, none⟩) 8 c1) := (cell_of_row _ _ _ _ _ _ zr1).trans rfl
    have q2 : Z.cell? ⟨b1, 1, none⟩ = some (.slice (some ⟨k1, 0, none⟩) 64 d1) := (cell_of_row _ _ _ _ _ _ zr1).trans rfl
    have q3 : Z.cell? ⟨b2, 0, none⟩ = some (.slice (some ⟨g2, 0, none⟩) 8 c2) := (cell_of_row _ _ _ _ _ _ zr2).trans rfl
    have q4 : Z.cell? ⟨b2, 1, none⟩ = some (.slice (some ⟨k2, 0, none⟩) 64 d2) := (cell_of_row _ _ _ _ _ _ zr2).trans rfl
    have q7 := hZ.keep y1
    have q8 := hZ.keep y2
    clear hZ zr1 zr2
    have e29 := (show a0_22.eval (.tmp 29) = .pointer (some ⟨k1, i, none⟩) from (fa0_22.at_ 29))
    clear fa0_22 hQ h3 r1 r2 y1 y2
    generalize a0_22.eval = ρ at *
    go_simp
  refine fa0_22.take 20 30 (.int .u32 (y : Int)) rfl (by kernel_rfl) (by kernel_rfl) (by kernel_rfl) (fun _ _ _ h => hQp _ _ _ _ _ h) rfl (lb_ I0.size) ((wanted_at (t := 25) (c := false) (b := false) rfl rfl rfl (lb_ (fa0_22.size.trans I0.size)) (fa0_22.at_ 25)).trans (by rfl)) r_a0_23 hS2 (fun a0_23 fa0_23 => ?_)
  clear r_a0_23
  clear fa0_22
  have r_a0_24 : ∀ Z, (fun Z => Same wr Z) Z → (execOp a0_23.eval { dst := some 31, op := Op.fieldAddr 25 (Operand.tmp 2) 1, type := 0, pos := "ref.go:246", after := #[{ on := 15, ground := Ground.guard }], guard := some (15, false) }).run Tryd.prog Z = .ok (.value (.pointer (some ⟨b2, 1, none⟩))) Z := fun Z hZ => by
    have e2 := (show a0_23.eval (.tmp 2) = .pointer (some ⟨b2, 0, none⟩) from ((fa0_23.at_ 2).trans I0.s2))
    clear fa0_23 hQ h3 r1 r2 y1 y2
    generalize a0_23.eval = ρ at *
    go_simp
  refine fa0_23.take 21 31 (.pointer (some ⟨b2, 1, none⟩)) rfl (by kernel_rfl) (by kernel_rfl) (by kernel_rfl) (fun _ _ _ h => hQp _ _ _ _ _ h) rfl (lb_ I0.size) ((wanted_at (t := 25) (c := false) (b := false) rfl rfl rfl (lb_ (fa0_23.size.trans I0.size)) (fa0_23.at_ 25)).trans (by rfl)) r_a0_24 hS2 (fun a0_24 fa0_24 => ?_)
  clear r_a0_24
  clear fa0_23
  have r_a0_25 : ∀ Z, (fun Z => Same wr Z) Z → (execOp a0_24.eval { dst := some 32, op := Op.load 23 (Operand.tmp 31), type := 23, pos := "ref.go:246", after := #[{ on := 21, ground := Ground.data }, { on := 15, ground := Ground.guard }], guard := some (15, false) }).run Tryd.prog Z = .ok (.value (.slice (some ⟨k2, 0, none⟩) 64 d2)) Z := fun Z hZ => by
    have zr1 := heap_fr r1 hZ (fun f => f)
    have zr2 := heap_fr r2 hZ (fun f => f)
    have q1 : Z.cell? ⟨b1, 0, none⟩ = some (.slice (some ⟨g1, 0, none⟩) 8 c1) := (cell_of_row _ _ _ _ _ _ zr1).trans rfl
    have q2 : Z.cell? ⟨b1, 1, none⟩ = some (.slice (some ⟨k1, 0, none⟩) 64 d1) := (cell_of_row _ _ _ _ _ _ zr1).trans rfl
    have q3 : Z.cell? ⟨b2, 0, none⟩ = some (.slice (some ⟨g2, 0, none⟩) 8 c2) := (cell_of_row _ _ _ _ _ _ zr2).trans rfl
    have q4 : Z.cell? ⟨b2, 1, none⟩ = some (.slice (some ⟨k2, 0, none⟩) 64 d2) := (cell_of_row _ _ _ _ _ _ zr2).trans rfl
    have q7 := hZ.keep y1
    have q8 := hZ.keep y2
    clear hZ zr1 zr2
    have e31 := (show a0_24.eval (.tmp 31) = .pointer (some ⟨b2, 1, none⟩) from (fa0_24.at_ 31))
    clear fa0_24 hQ h3 r1 r2 y1 y2
    generalize a0_24.eval = ρ at *
    go_simp
  refine fa0_24.take 22 32 (.slice (some ⟨k2, 0, none⟩) 64 d2) rfl (by kernel_rfl) (by kernel_rfl) (by kernel_rfl) (fun _ _ _ h => hQp _ _ _ _ _ h) rfl (lb_ I0.size) ((wanted_at (t := 25) (c := false) (b := false) rfl rfl rfl (lb_ (fa0_24.size.trans I0.size)) (fa0_24.at_ 25)).trans (by rfl)) r_a0_25 hS2 (fun a0_25 fa0_25 => ?_)
  clear r_a0_25
  clear fa0_24
  refine fa0_25.takeMove 23 33 (.int .i64 (i : Int)) _ (Or.inl rfl) rfl (by kernel_rfl) (by kernel_rfl) (by kernel_rfl) (fun _ _ _ h => hQp _ _ _ _ _ h) rfl (lb_ I0.size) ((wanted_at (t := 25) (c := false) (b := false) rfl rfl rfl (lb_ (fa0_25.size.trans I0.size)) (fa0_25.at_ 25)).trans (by rfl)) ((fa0_25.at_ 3).trans h3) hS2 (fun a0_26 fa0_26 => ?_)
  clear fa0_25
  have r_a0_27 : ∀ Z, (fun Z => Same wr Z) Z → (execOp a0_26.eval { dst := some 34, op := Op.indexAddr 23 (Operand.tmp 32) (Operand.tmp 33), type := 0, pos := "ref.go:246", after := #[{ on := 22, ground := Ground.data }, { on := 23, ground := Ground.data }, { on := 15, ground := Ground.guard }], guard := some (15, false) }).run Tryd.prog Z = .ok (.value (.pointer (some ⟨k2, i, none⟩))) Z := fun Z hZ => by
    have e32 := (show a0_26.eval (.tmp 32) = .slice (some ⟨k2, 0, none⟩) 64 d2 from (fa0_26.at_ 32))
    have e33 := (show a0_26.eval (.tmp 33) = .int .i64 (i : Int) from (fa0_26.at_ 33))
    clear fa0_26 hQ h3 r1 r2 y1 y2
    generalize a0_26.eval = ρ at *
    go_simp
  refine fa0_26.take 24 34 (.pointer (some ⟨k2, i, none⟩)) rfl (by kernel_rfl) (by kernel_rfl) (by kernel_rfl) (fun _ _ _ h => hQp _ _ _ _ _ h) rfl (lb_ I0.size) ((wanted_at (t := 25) (c := false) (b := false) rfl rfl rfl (lb_ (fa0_26.size.trans I0.size)) (fa0_26.at_ 25)).trans (by rfl)) r_a0_27 hS2 (fun a0_27 fa0_27 => ?_)
  clear r_a0_27
  clear fa0_26
  have r_a0_28 : ∀ Z, (fun Z => Same wr Z) Z → (execOp a0_27.eval { dst := some 35, op := Op.load 27 (Operand.tmp 34), type := 27, pos := "ref.go:246", after := #[{ on := 24, ground := Ground.data }, { on := 15, ground := Ground.guard }], guard := some (15, false) }).run Tryd.prog Z = .ok (.value (.int .u32 (y : Int))) Z := fun Z hZ => by
    have zr1 := heap_fr r1 hZ (fun f => f)
    have zr2 := heap_fr r2 hZ (fun f => f)
    have q1 : Z.cell? ⟨b1, 0, none⟩ = some (.slice (some ⟨g1, 0, none⟩) 8 c1) := (cell_of_row _ _ _ _ _ _ zr1).trans rfl
    have q2 : Z.cell? ⟨b1, 1, none⟩ = some (.slice (some ⟨k1, 0, none⟩) 64 d1) := (cell_of_row _ _ _ _ _ _ zr1).trans rfl
    have q3 : Z.cell? ⟨b2, 0, none⟩ = some (.slice (some ⟨g2, 0, none⟩) 8 c2) := (cell_of_row _ _ _ _ _ _ zr2).trans rfl
    have q4 : Z.cell? ⟨b2, 1, none⟩ = some (.slice (some ⟨k2, 0, none⟩) 64 d2) := (cell_of_row _ _ _ _ _ _ zr2).trans rfl
    have q7 := hZ.keep y1
    have q8 := hZ.keep y2
    clear hZ zr1 zr2
    have e34 := (show a0_27.eval (.tmp 34) = .pointer (some ⟨k2, i, none⟩) from (fa0_27.at_ 34))
    clear fa0_27 hQ h3 r1 r2 y1 y2
    generalize a0_27.eval = ρ at *
    go_simp
  refine fa0_27.take 25 35 (.int .u32 (y : Int)) rfl (by kernel_rfl) (by kernel_rfl) (by kernel_rfl) (fun _ _ _ h => hQp _ _ _ _ _ h) rfl (lb_ I0.size) ((wanted_at (t := 25) (c := false) (b := false) rfl rfl rfl (lb_ (fa0_27.size.trans I0.size)) (fa0_27.at_ 25)).trans (by rfl)) r_a0_28 hS2 (fun a0_28 fa0_28 => ?_)
  clear r_a0_28
  clear fa0_27
  have r_a0_29 : ∀ Z, (fun Z => Same wr Z) Z → (execOp a0_28.eval { dst := some 36, op := Op.binOp BinOp.neq 27 (Operand.tmp 30) (Operand.tmp 35) 27, type := 4, pos := "ref.go:246", after := #[{ on := 20, ground := Ground.data }, { on := 25, ground := Ground.data }, { on := 15, ground := Ground.guard }], guard := some (15, false) }).run Tryd.prog Z = .ok (.value (.bool false)) Z := fun Z hZ => by
    have e30 := (show a0_28.eval (.tmp 30) = .int .u32 (y : Int) from (fa0_28.at_ 30))
    have e35 := (show a0_28.eval (.tmp 35) = .int .u32 (y : Int) from (fa0_28.at_ 35))
    clear fa0_28 hQ h3 r1 r2 y1 y2
    generalize a0_28.eval = ρ at *
    go_simp
  refine fa0_28.take 26 36 (.bool false) rfl (by kernel_rfl) (by kernel_rfl) (by kernel_rfl) (fun _ _ _ h => hQp _ _ _ _ _ h) rfl (lb_ I0.size) ((wanted_at (t := 25) (c := false) (b := false) rfl rfl rfl (lb_ (fa0_28.size.trans I0.size)) (fa0_28.at_ 25)).trans (by rfl)) r_a0_29 hS2 (fun a0_29 fa0_29 => ?_)
  clear r_a0_29
  clear fa0_28
  have r_a0_30 : ∀ Z, (fun Z => Same wr Z) Z → (execOp a0_29.eval { dst := some 37, op := Op.pick (Operand.tmp 25) (Operand.const (Value.bool true)) (Operand.tmp 36), type := 4, pos := "ref.go:246", after := #[{ on := 15, ground := Ground.data }, { on := 26, ground := Ground.data }], guard := none }).run Tryd.prog Z = .ok (.value (.bool false)) Z := fun Z hZ => by
    have kc : ∀ v, a0_29.eval (.const v) = v := fun _ => rfl
    have e25 := (show a0_29.eval (.tmp 25) = .bool false from (fa0_29.at_ 25))
    have e36 := (show a0_29.eval (.tmp 36) = .bool false from (fa0_29.at_ 36))
    clear fa0_29 hQ h3 r1 r2 y1 y2
    generalize a0_29.eval = ρ at *
    go_simp
  refine fa0_29.take 27 37 (.bool false) rfl (by kernel_rfl) (by kernel_rfl) (by kernel_rfl) (fun _ _ _ h => hQp _ _ _ _ _ h) rfl (lb_ I0.size) (wanted_none rfl) r_a0_30 hS2 (fun a0_30 fa0_30 => ?_)
  clear r_a0_30
  clear fa0_29
  refine wpAnyH_done (by kernel_rfl) ?_ _
  change Code.wp _ _ _ _ _
  refine wp_cond_false (show a0_30.eval (.tmp 37) = .bool false from (fa0_30.at_ 37)) (wp_skip ?_)
  change Code.wp _ _ _ _ _
  refine wp_region_list ?_
  unfold rRH5
  refine fa0_30.move 8 (.int .i64 (i : Int)) _ (Or.inl rfl) rfl (lb_ I0.size) (wanted_none rfl) ((fa0_30.at_ 3).trans h3) (fun a0_31 fa0_31 => ?_)
  clear fa0_30
  have r_a0_32 : (execOp a0_31.eval { dst := some 9, op := Op.binOp BinOp.add 3 (Operand.tmp 8) (Operand.const (Value.int IntKind.i64 1)) 3, type := 3, pos := "ref.go:245", after := #[{ on := 0, ground := Ground.data }], guard := none }).run Tryd.prog (wr.drew) = .ok (.value (.int .i64 ((i : Int) + 1))) (wr.drew) := by
    have kc : ∀ v, a0_31.eval (.const v) = v := fun _ => rfl
    have e8 := (show a0_31.eval (.tmp 8) = .int .i64 (i : Int) from (fa0_31.at_ 8))
    clear fa0_31 hQ h3 r1 r2 y1 y2
    generalize a0_31.eval = ρ at *
    go_simp
  refine fa0_31.step 9 (.int .i64 ((i : Int) + 1)) rfl (lb_ I0.size) (wanted_none rfl) r_a0_32 (fun a0_32 fa0_32 => ?_)
  clear r_a0_32
  clear fa0_31
  refine fa0_32.move 3 (.int .i64 ((i : Int) + 1)) _ (Or.inr rfl) rfl (lb_ I0.size) (wanted_none rfl) (fa0_32.at_ 9) (fun a0_33 fa0_33 => ?_)
  clear fa0_32
  refine wpList_nil ?_
  exact hQ a0_33 wr.drew (I0.keep fa0_33 rfl rfl) (show a0_33.eval (.tmp 3) = .int .i64 ((i : Int) + 1) from (fa0_33.at_ 3)) dd
theorem roots_h : rtL 2 8 = [hTab.a, hTab.b, hTab.c, hTab.d, hTab.e, hTab.f, hTab.g, hTab.h].map (·.toNat) := by decide +kernel
theorem roots_k : rtL 3 64 = kTab.map (·.toNat) := by decide +kernel
theorem uat_at {W : World} {g i x : Nat} {l : List UInt32} (h : UAt W g 0 l) (hx : (l.map (·.toNat))[i]? = some x) : W.cell? ⟨g, i, none⟩ = some (.int .u32 (x : Int)) := by
  rw [List.getElem?_map] at hx
  obtain ⟨u, hu, rfl⟩ := Option.map_eq_some_iff.1 hx
  have := h i u hu
  rw [Nat.zero_add] at this
  exact this
theorem rhL {b1 b2 g1 g2 k1 k2 c1 c2 d1 d2 : Nat} {Q : Exit → Act → World → Prop} (hQp : ∀ c (a : Act) d v w, Q (.panic c) (a.put d v) w → Q (.panic c) a w) (a0 : Act) (w : World) (I0 : IRH (.pointer (some ⟨b1, 0, none⟩)) (.pointer (some ⟨b2, 0, none⟩)) a0) (h3 : a0.eval (.tmp 3) = .int .i64 ((0 : Nat) : Int)) (r1 : w.heap[b1]? = some (.cells #[.slice (some ⟨g1, 0, none⟩) 8 c1, .slice (some ⟨k1, 0, none⟩) 64 d1] 25 (0, 0))) (r2 : w.heap[b2]? = some (.cells #[.slice (some ⟨g2, 0, none⟩) 8 c2, .slice (some ⟨k2, 0, none⟩) 64 d2] 25 (0, 0)))
    (oh : w.ownsRow 0 27 1 (.slice (some ⟨g1, 0, none⟩) 8 c1) 8 (dcells (rtL 2 8))) (ok : w.ownsRow 0 27 1 (.slice (some ⟨k1, 0, none⟩) 64 d1) 64 (dcells (rtL 3 64))) (uh : UAt w g2 0 [hTab.a, hTab.b, hTab.c, hTab.d, hTab.e, hTab.f, hTab.g, hTab.h]) (uk : UAt w k2 0 kTab)
    (hQ : ∀ a W, IRH (.pointer (some ⟨b1, 0, none⟩)) (.pointer (some ⟨b2, 0, none⟩)) a → Same w W → Q (.exit 0) a W) : (Code.loop cRH1).wp Tryd.prog Q a0 w := by
  refine wp_loop (fun a W => IRH (.pointer (some ⟨b1, 0, none⟩)) (.pointer (some ⟨b2, 0, none⟩)) a ∧ Same w W ∧ ∃ i : Nat, i ≤ 64 ∧ a.eval (.tmp 3) = .int .i64 (i : Int)) (fun a _ => 64 - kOf a 3) ⟨I0, Fr.refl _ _, 0, Nat.zero_le _, h3⟩ ?_
  rintro a W ⟨I1, s1, i, hi, e3⟩
  by_cases hgo : i < 64
  · have fin : ∀ (a' : Act) (W' : World), IRH (.pointer (some ⟨b1, 0, none⟩)) (.pointer (some ⟨b2, 0, none⟩)) a' → a'.eval (.tmp 3) = .int .i64 ((i : Int) + 1) → Same W W' → (IRH (.pointer (some ⟨b1, 0, none⟩)) (.pointer (some ⟨b2, 0, none⟩)) a' ∧ Same w W' ∧ ∃ i : Nat, i ≤ 64 ∧ a'.eval (.tmp 3) = .int .i64 (i : Int)) ∧ 64 - kOf a' 3 < 64 - kOf a 3 := by
      intro a' W' i2 j3 s2
      have h4 : a'.eval (.tmp 3) = .int .i64 ((i + 1 : Nat) : Int) := j3
      refine ⟨⟨i2, s1.trans s2, i + 1, hgo, h4⟩, ?_⟩
      rw [kOf_eq h4, kOf_eq e3]
      omega
    obtain ⟨y, hy⟩ : ∃ y, (rtL 3 64)[i]? = some y := ⟨_, List.getElem?_eq_getElem (by rw [rtL_len (by decide)]; exact hgo)⟩
    have y1 := s1.keep (own_cell ok (dcells_at hy))
    have y2 := s1.keep (uat_at uk (by rw [← roots_k]; exact hy))
    by_cases h8 : i < 8
    · obtain ⟨x, hx⟩ : ∃ x, (rtL 2 8)[i]? = some x := ⟨_, List.getElem?_eq_getElem (by rw [rtL_len (by decide)]; exact h8)⟩
      have x1 := s1.keep (own_cell oh (dcells_at hx))
      have x2 := s1.keep (uat_at uh (by rw [← roots_h]; exact hx))
      exact rhA (Q := Exit.then _ Q) (fun c a d v w h => hQp c a d v w h) a W I1 e3 hgo h8 (heap_fr r1 s1 (fun f => f)) (heap_fr r2 s1 (fun f => f)) x1 x2 y1 y2 (fun a' W' i2 j3 s2 => fin a' W' i2 j3 s2)
    · exact rhB (Q := Exit.then _ Q) (fun c a d v w h => hQp c a d v w h) a W I1 e3 hgo (by omega) (heap_fr r1 s1 (fun f => f)) (heap_fr r2 s1 (fun f => f)) y1 y2 (fun a' W' i2 j3 s2 => fin a' W' i2 j3 s2)
  · obtain rfl : i = 64 := by omega
    exact rhE a W I1 e3 (Nat.le_refl _) (fun a' i2 => hQ a' W i2 s1)
set_option maxRecDepth 100000 in
set_option maxHeartbeats 2000000 in
theorem right_calls (w : World) :
    Calls Tryd.prog 4 #[] w fun e w' => e = .returned (.bool true) ∧ Same w w' := by
  refine calls_abs (c := cRH) Tryd.func4 (by kernel_rfl) 38 rfl (by simp) (fun a0 hsz hd _ => ?_)
  have fa0_0 := Fe.refl a0
  unfold cRH
  refine wp_seq ?_
  refine wp_region_list ?_
  unfold rRH0
  refine fa0_0.move 0 (.bool false) _ (Or.inr rfl) rfl (lb_ hsz) (wanted_none rfl) rfl (fun a0_1 fa0_1 => ?_)
  clear fa0_0
  refine wpList_nil ?_
  change Code.wp _ _ _ _ _
  refine wp_seq ?_
  refine wp_region_list ?_
  unfold rRH1
  have r_a0_2 : (execOp a0_1.eval { dst := some 4, op := Op.call { callee := Callee.value (Operand.func 6), args := #[], argTypes := #[] }, type := 25, pos := "ref.go:243", after := #[], guard := none }).run Tryd.prog (w) = .ok (.enter 6 #[]) (w) := by
    have kf : ∀ f, a0_1.eval (.func f) = .func (.func f) #[] #[] := fun _ => rfl
    clear fa0_1 
    generalize a0_1.eval = ρ at *
    go_simp
  refine fa0_1.call 4 rfl (lb_ hsz) (wanted_none rfl) r_a0_2 (constants_calls w) (fun e W1 hR => ?_)
  obtain ⟨g1, c1, k1, d1, rfl, oh, ok, s0⟩ := hR
  clear r_a0_2
  refine ⟨_, rfl, fun a0_2 fa0_2 => ?_⟩
  clear fa0_1
  have r_a0_3 : (execOp a0_2.eval { dst := some 1, op := Op.alloc 25, type := 0, pos := "ref.go:243", after := #[], guard := none }).run Tryd.prog (W1) = .ok (.value (.pointer (some ⟨W1.heap.size, 0, none⟩))) (World.alloc W1 (.cells #[.slice none 0 0, .slice none 0 0] 25)) := by
    clear fa0_2 
    generalize a0_2.eval = ρ at *
    go_simp
  refine fa0_2.stepW 1 (.pointer (some ⟨W1.heap.size, 0, none⟩)) rfl (lb_ hsz) (wanted_none rfl) r_a0_3 (fun a0_3 fa0_3 => ?_)
  clear r_a0_3
  have s1 : Same W1 (World.alloc W1 (.cells #[.slice none 0 0, .slice none 0 0] 25)) := (Fr.refl _ W1).alloc _
  have r1 : (World.alloc W1 (.cells #[.slice none 0 0, .slice none 0 0] 25)).heap[W1.heap.size]? = some (.cells #[.slice none 0 0, .slice none 0 0] 25 (0, 0)) := heap_alloc_new W1 _
  generalize World.alloc W1 (.cells #[.slice none 0 0, .slice none 0 0] 25) = V1 at *
  clear fa0_2
  have r_a0_4 : (execOp a0_3.eval { dst := none, op := Op.store 25 (Operand.tmp 1) (Operand.tmp 4), type := 0, pos := "ref.go:243", after := #[{ on := 1, ground := Ground.data }, { on := 0, ground := Ground.data }, { on := 0, ground := Ground.chain }, { on := 0, ground := Ground.phase }, { on := 1, ground := Ground.phase }], guard := none }).run Tryd.prog (V1) = .ok .skip (World.setCells V1 W1.heap.size 0 [.slice (some ⟨g1, 0, none⟩) 8 c1, .slice (some ⟨k1, 0, none⟩) 64 d1]) := by
    exact exec_store_mid 25 _ _ rfl W1.heap.size 0 #[.slice (some ⟨g1, 0, none⟩) 8 c1, .slice (some ⟨k1, 0, none⟩) 64 d1] (show a0_3.eval (.tmp 1) = .pointer (some ⟨W1.heap.size, 0, none⟩) from (fa0_3.at_ 1)) (show a0_3.eval (.tmp 4) = .agg #[.slice (some ⟨g1, 0, none⟩) 8 c1, .slice (some ⟨k1, 0, none⟩) 64 d1] from (fa0_3.at_ 4)) (there_row r1 rfl) (by kernel_rfl) (by kernel_rfl)
  refine fa0_3.store rfl (wanted_none rfl) r_a0_4 (fun a0_4 fa0_4 => ?_)
  clear r_a0_4
  have q1 : (World.setCells V1 W1.heap.size 0 [.slice (some ⟨g1, 0, none⟩) 8 c1, .slice (some ⟨k1, 0, none⟩) 64 d1]).heap[W1.heap.size]? = some (.cells #[.slice (some ⟨g1, 0, none⟩) 8 c1, .slice (some ⟨k1, 0, none⟩) 64 d1] 25 (0, 0)) := setCells_whole [.slice (some ⟨g1, 0, none⟩) 8 c1, .slice (some ⟨k1, 0, none⟩) 64 d1] _ r1 rfl (there_row r1 rfl)
  have t1 : Same W1 (World.setCells V1 W1.heap.size 0 [.slice (some ⟨g1, 0, none⟩) 8 c1, .slice (some ⟨k1, 0, none⟩) 64 d1]) := Fr.trans s1 (Fr.setCells (S := fun k => k = W1.heap.size) (fun _ => rfl) _ 0 V1 (Fr.refl _ V1)) (fun k hk e => by have e2 : k = W1.heap.size := e; omega)
  generalize World.setCells V1 W1.heap.size 0 [.slice (some ⟨g1, 0, none⟩) 8 c1, .slice (some ⟨k1, 0, none⟩) 64 d1] = V2 at *
  clear fa0_3
  refine wpList_nil ?_
  change Code.wp _ _ _ _ _
  refine wp_seq ?_
  refine wp_region_list ?_
  unfold rRH2
  have r_a0_5 : (execOp a0_4.eval { dst := some 5, op := Op.call { callee := Callee.value (Operand.func 7), args := #[], argTypes := #[] }, type := 25, pos := "ref.go:244", after := #[], guard := none }).run Tryd.prog (V2) = .ok (.enter 7 #[]) (V2) := by
    have kf : ∀ f, a0_4.eval (.func f) = .func (.func f) #[] #[] := fun _ => rfl
    clear fa0_4 oh ok s0 t1
    generalize a0_4.eval = ρ at *
    go_simp
  refine fa0_4.call 5 rfl (lb_ hsz) (wanted_none rfl) r_a0_5 (table_calls V2) (fun e W2 hR => ?_)
  obtain ⟨g2, c2, k2, d2, rfl, uh, uk, s5⟩ := hR
  clear r_a0_5
  refine ⟨_, rfl, fun a0_5 fa0_5 => ?_⟩
  clear fa0_4
  have r_a0_6 : (execOp a0_5.eval { dst := some 2, op := Op.alloc 25, type := 0, pos := "ref.go:244", after := #[], guard := none }).run Tryd.prog (W2) = .ok (.value (.pointer (some ⟨W2.heap.size, 0, none⟩))) (World.alloc W2 (.cells #[.slice none 0 0, .slice none 0 0] 25)) := by
    clear fa0_5 oh ok s0 t1
    generalize a0_5.eval = ρ at *
    go_simp
  refine fa0_5.stepW 2 (.pointer (some ⟨W2.heap.size, 0, none⟩)) rfl (lb_ hsz) (wanted_none rfl) r_a0_6 (fun a0_6 fa0_6 => ?_)
  clear r_a0_6
  have s2 : Same W2 (World.alloc W2 (.cells #[.slice none 0 0, .slice none 0 0] 25)) := (Fr.refl _ W2).alloc _
  have r2 : (World.alloc W2 (.cells #[.slice none 0 0, .slice none 0 0] 25)).heap[W2.heap.size]? = some (.cells #[.slice none 0 0, .slice none 0 0] 25 (0, 0)) := heap_alloc_new W2 _
  generalize World.alloc W2 (.cells #[.slice none 0 0, .slice none 0 0] 25) = V3 at *
  clear fa0_5
  have r_a0_7 : (execOp a0_6.eval { dst := none, op := Op.store 25 (Operand.tmp 2) (Operand.tmp 5), type := 0, pos := "ref.go:244", after := #[{ on := 1, ground := Ground.data }, { on := 0, ground := Ground.data }, { on := 0, ground := Ground.chain }, { on := 0, ground := Ground.phase }, { on := 1, ground := Ground.phase }], guard := none }).run Tryd.prog (V3) = .ok .skip (World.setCells V3 W2.heap.size 0 [.slice (some ⟨g2, 0, none⟩) 8 c2, .slice (some ⟨k2, 0, none⟩) 64 d2]) := by
    exact exec_store_mid 25 _ _ rfl W2.heap.size 0 #[.slice (some ⟨g2, 0, none⟩) 8 c2, .slice (some ⟨k2, 0, none⟩) 64 d2] (show a0_6.eval (.tmp 2) = .pointer (some ⟨W2.heap.size, 0, none⟩) from (fa0_6.at_ 2)) (show a0_6.eval (.tmp 5) = .agg #[.slice (some ⟨g2, 0, none⟩) 8 c2, .slice (some ⟨k2, 0, none⟩) 64 d2] from (fa0_6.at_ 5)) (there_row r2 rfl) (by kernel_rfl) (by kernel_rfl)
  refine fa0_6.store rfl (wanted_none rfl) r_a0_7 (fun a0_7 fa0_7 => ?_)
  clear r_a0_7
  have q2 : (World.setCells V3 W2.heap.size 0 [.slice (some ⟨g2, 0, none⟩) 8 c2, .slice (some ⟨k2, 0, none⟩) 64 d2]).heap[W2.heap.size]? = some (.cells #[.slice (some ⟨g2, 0, none⟩) 8 c2, .slice (some ⟨k2, 0, none⟩) 64 d2] 25 (0, 0)) := setCells_whole [.slice (some ⟨g2, 0, none⟩) 8 c2, .slice (some ⟨k2, 0, none⟩) 64 d2] _ r2 rfl (there_row r2 rfl)
  have t2 : Same W2 (World.setCells V3 W2.heap.size 0 [.slice (some ⟨g2, 0, none⟩) 8 c2, .slice (some ⟨k2, 0, none⟩) 64 d2]) := Fr.trans s2 (Fr.setCells (S := fun k => k = W2.heap.size) (fun _ => rfl) _ 0 V3 (Fr.refl _ V3)) (fun k hk e => by have e2 : k = W2.heap.size := e; omega)
  generalize World.setCells V3 W2.heap.size 0 [.slice (some ⟨g2, 0, none⟩) 8 c2, .slice (some ⟨k2, 0, none⟩) 64 d2] = V4 at *
  clear fa0_6
  refine wpList_nil ?_
  change Code.wp _ _ _ _ _
  refine wp_seq (wp_seq ?_)
  refine wp_region_list ?_
  unfold rRH3
  refine fa0_7.move 3 (.int .i64 ((0 : Nat) : Int)) _ (Or.inr rfl) rfl (lb_ hsz) (wanted_none rfl) rfl (fun a0_8 fa0_8 => ?_)
  clear fa0_7
  refine wpList_nil ?_
  change Code.wp _ _ _ _ _
  refine wp_block ?_
  have sv := s5.trans t2
  refine rhL (by intro c a d v w h; cases d <;> exact h) a0_8 V4 ⟨fa0_8.size.trans hsz, fa0_8.defers.trans hd, (show a0_8.eval (.tmp 1) = .pointer (some ⟨W1.heap.size, 0, none⟩) from (fa0_8.at_ 1)), (show a0_8.eval (.tmp 2) = .pointer (some ⟨W2.heap.size, 0, none⟩) from (fa0_8.at_ 2))⟩ (show a0_8.eval (.tmp 3) = .int .i64 ((0 : Nat) : Int) from (fa0_8.at_ 3)) (heap_fr q1 sv (fun f => f)) q2 (own_frameB oh (t1.trans sv) (fun _ _ f => f)) (own_frameB ok (t1.trans sv) (fun _ _ f => f)) (uh.same t2) (uk.same t2) (fun b1 W i1 s9 => ?_)
  change Code.wp _ _ _ _ _
  refine wp_seq ?_
  have fb1_0 := Fe.refl b1
  refine wp_region_list ?_
  unfold rRH8
  refine fb1_0.move 0 (.bool true) _ (Or.inr rfl) rfl (lb_ i1.size) (wanted_none rfl) rfl (fun b1_1 fb1_1 => ?_)
  clear fb1_0
  refine wpList_nil ?_
  change Code.wp _ _ _ _ _
  refine wp_ret ?_
  exact ret_abs rfl (fb1_1.defers.trans i1.defers) (show b1_1.eval (.tmp 0) = .bool true from (fb1_1.at_ 0)) ⟨rfl, (s0.trans (t1.trans sv)).trans s9⟩
def rRI0 : Array Oper := #[{ dst := some 0, op := Op.assign (Operand.const (Value.bool false)), type := 4, pos := "law.go:65", after := #[], guard := none }]
def rRI1 : Array Oper := #[{ dst := some 1, op := Op.move (Operand.const (Value.bool true)), type := 4, pos := "law.go:66", after := #[], guard := none },
  { dst := some 2, op := Op.call { callee := Callee.value (Operand.func 4), args := #[], argTypes := #[] }, type := 4, pos := "law.go:66", after := #[{ on := 0, ground := Ground.chain }, { on := 0, ground := Ground.guard }], guard := some (0, true) },
  { dst := some 3, op := Op.pick (Operand.tmp 1) (Operand.tmp 2) (Operand.const (Value.bool false)), type := 4, pos := "law.go:66", after := #[{ on := 0, ground := Ground.data }, { on := 1, ground := Ground.data }], guard := none },
  { dst := some 4, op := Op.move (Operand.tmp 3), type := 4, pos := "law.go:66", after := #[{ on := 2, ground := Ground.data }, { on := 1, ground := Ground.chain }], guard := none },
  { dst := some 5, op := Op.call { callee := Callee.value (Operand.func 5), args := #[], argTypes := #[] }, type := 4, pos := "law.go:66", after := #[{ on := 3, ground := Ground.chain }, { on := 3, ground := Ground.guard }], guard := some (3, true) },
  { dst := some 6, op := Op.pick (Operand.tmp 4) (Operand.tmp 5) (Operand.const (Value.bool false)), type := 4, pos := "law.go:66", after := #[{ on := 3, ground := Ground.data }, { on := 4, ground := Ground.data }], guard := none },
  { dst := some 0, op := Op.assign (Operand.tmp 6), type := 4, pos := "law.go:66", after := #[{ on := 5, ground := Ground.data }, { on := 4, ground := Ground.chain }, { on := 0, ground := Ground.phase }, { on := 1, ground := Ground.phase }, { on := 2, ground := Ground.phase }, { on := 3, ground := Ground.phase }, { on := 4, ground := Ground.phase }, { on := 5, ground := Ground.phase }], guard := none }]
def cRI : Code := (Code.seq (Code.region 0 rRI0 false) (Code.seq (Code.region 1 rRI1 false) Code.ret))
set_option maxRecDepth 100000 in
set_option maxHeartbeats 2000000 in
theorem snames_walk (w : World) (ht : TabAt w) :
    Calls Tryd.prog 3 #[] w fun e w' => e = .returned (.bool true) ∧ Same w w' := by
  refine calls_abs (c := cRI) Tryd.func3 (by kernel_rfl) 7 rfl (by simp) (fun a0 hsz hd _ => ?_)
  have fa0_0 := Fe.refl a0
  unfold cRI
  refine wp_seq ?_
  refine wp_region_list ?_
  unfold rRI0
  refine fa0_0.move 0 (.bool false) _ (Or.inr rfl) rfl (lb_ hsz) (wanted_none rfl) rfl (fun a0_1 fa0_1 => ?_)
  clear fa0_0
  refine wpList_nil ?_
  change Code.wp _ _ _ _ _
  refine wp_seq ?_
  refine wp_region_list ?_
  unfold rRI1
  refine fa0_1.move 1 (.bool true) _ (Or.inl rfl) rfl (lb_ hsz) (wanted_none rfl) rfl (fun a0_2 fa0_2 => ?_)
  clear fa0_1
  have r_a0_3 : (execOp a0_2.eval { dst := some 2, op := Op.call { callee := Callee.value (Operand.func 4), args := #[], argTypes := #[] }, type := 4, pos := "law.go:66", after := #[{ on := 0, ground := Ground.chain }, { on := 0, ground := Ground.guard }], guard := some (0, true) }).run Tryd.prog (w) = .ok (.enter 4 #[]) (w) := by
    have kf : ∀ f, a0_2.eval (.func f) = .func (.func f) #[] #[] := fun _ => rfl
    clear fa0_2 ht
    generalize a0_2.eval = ρ at *
    go_simp
  refine fa0_2.call 2 rfl (lb_ hsz) ((wanted_at (t := 1) (c := true) (b := true) rfl rfl rfl (lb_ (fa0_2.size.trans hsz)) (fa0_2.at_ 1)).trans (by rfl)) r_a0_3 (right_calls w) (fun e W1 hR => ?_)
  obtain ⟨rfl, s1⟩ := hR
  clear r_a0_3
  refine ⟨_, rfl, fun a0_3 fa0_3 => ?_⟩
  clear fa0_2
  have r_a0_4 : (execOp a0_3.eval { dst := some 3, op := Op.pick (Operand.tmp 1) (Operand.tmp 2) (Operand.const (Value.bool false)), type := 4, pos := "law.go:66", after := #[{ on := 0, ground := Ground.data }, { on := 1, ground := Ground.data }], guard := none }).run Tryd.prog (W1) = .ok (.value (.bool true)) (W1) := by
    have kc : ∀ v, a0_3.eval (.const v) = v := fun _ => rfl
    have e1 := (show a0_3.eval (.tmp 1) = .bool true from (fa0_3.at_ 1))
    have e2 := (show a0_3.eval (.tmp 2) = .bool true from (fa0_3.at_ 2))
    clear fa0_3 ht
    generalize a0_3.eval = ρ at *
    go_simp
  refine fa0_3.step 3 (.bool true) rfl (lb_ hsz) (wanted_none rfl) r_a0_4 (fun a0_4 fa0_4 => ?_)
  clear r_a0_4
  clear fa0_3
  refine fa0_4.move 4 (.bool true) _ (Or.inl rfl) rfl (lb_ hsz) (wanted_none rfl) (fa0_4.at_ 3) (fun a0_5 fa0_5 => ?_)
  clear fa0_4
  have r_a0_6 : (execOp a0_5.eval { dst := some 5, op := Op.call { callee := Callee.value (Operand.func 5), args := #[], argTypes := #[] }, type := 4, pos := "law.go:66", after := #[{ on := 3, ground := Ground.chain }, { on := 3, ground := Ground.guard }], guard := some (3, true) }).run Tryd.prog (W1) = .ok (.enter 5 #[]) (W1) := by
    have kf : ∀ f, a0_5.eval (.func f) = .func (.func f) #[] #[] := fun _ => rfl
    clear fa0_5 ht
    generalize a0_5.eval = ρ at *
    go_simp
  refine fa0_5.call 5 rfl (lb_ hsz) ((wanted_at (t := 4) (c := true) (b := true) rfl rfl rfl (lb_ (fa0_5.size.trans hsz)) (fa0_5.at_ 4)).trans (by rfl)) r_a0_6 (awake_calls W1 (ht.same s1)) (fun e W2 hR => ?_)
  obtain ⟨rfl, s2⟩ := hR
  clear r_a0_6
  refine ⟨_, rfl, fun a0_6 fa0_6 => ?_⟩
  clear fa0_5
  have r_a0_7 : (execOp a0_6.eval { dst := some 6, op := Op.pick (Operand.tmp 4) (Operand.tmp 5) (Operand.const (Value.bool false)), type := 4, pos := "law.go:66", after := #[{ on := 3, ground := Ground.data }, { on := 4, ground := Ground.data }], guard := none }).run Tryd.prog (W2) = .ok (.value (.bool true)) (W2) := by
    have kc : ∀ v, a0_6.eval (.const v) = v := fun _ => rfl
    have e4 := (show a0_6.eval (.tmp 4) = .bool true from (fa0_6.at_ 4))
    have e5 := (show a0_6.eval (.tmp 5) = .bool true from (fa0_6.at_ 5))
    clear fa0_6 ht
    generalize a0_6.eval = ρ at *
    go_simp
  refine fa0_6.step 6 (.bool true) rfl (lb_ hsz) (wanted_none rfl) r_a0_7 (fun a0_7 fa0_7 => ?_)
  clear r_a0_7
  clear fa0_6
  refine fa0_7.move 0 (.bool true) _ (Or.inr rfl) rfl (lb_ hsz) (wanted_none rfl) (fa0_7.at_ 6) (fun a0_8 fa0_8 => ?_)
  clear fa0_7
  refine wpList_nil ?_
  change Code.wp _ _ _ _ _
  refine wp_ret ?_
  exact ret_abs rfl (fa0_8.defers.trans hd) (show a0_8.eval (.tmp 0) = .bool true from (fa0_8.at_ 0)) ⟨rfl, s1.trans s2⟩
end Go.Proofs.YtnoicjpmfchhiaaDoor
