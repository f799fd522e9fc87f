/- free: begun. -/
import Derived.Test.YtajbifblbmlffaaEJJ
namespace Go.Proofs.Ytajbifblbmlffaa
open Go.RowKit Go.Maps

/-- A plan that is being begun: the need's box, the loose and the held numbers, the plan's box, the spares so far. -/
structure BG (w W : World) (x : Nee) (nb lb mb hb m : Nat) (H : SetD) (S : List (Nat × Nat)) (ao : Option Addr) (c : Nat) : Prop where
  hn : W.heap[nb]? = some (.cells x.cells 67 (0, 0))
  hm : W.heap[mb]? = some (.cells #[.slice x.ca x.L.length x.cc, .slice ao S.length c, .int .i64 0, .map (some lb), .int .u32 (x.pages : Int), .int .u32 (x.most : Int)] 101 (0, 0))
  l : SetAt W lb 0 (.map [])
  h : SetAt W hb m H
  o : W.ownsRow w.heap.size 118 2 (.slice ao S.length c) S.length (spcells S)
  b : Same w W
  g1 : w.heap.size ≤ nb
  g2 : w.heap.size ≤ mb
  g3 : w.heap.size ≤ lb
  g4 : w.heap.size ≤ hb
  ne : lb ≠ hb
theorem BG.same {w W W' : World} {x : Nee} {nb lb mb hb m : Nat} {H : SetD} {S : List (Nat × Nat)} {ao : Option Addr} {c : Nat} (h : BG w W x nb lb mb hb m H S ao c) (s : Same W W') : BG w W' x nb lb mb hb m H S ao c :=
  ⟨(s.block _ (lt_of_heap h.hn) (fun f => f)).trans h.hn, (s.block _ (lt_of_heap h.hm) (fun f => f)).trans h.hm, h.l.fr s (fun f => f), h.h.fr s (fun f => f), own_frameB h.o s (fun _ _ e => e), h.b.trans s, h.g1, h.g2, h.g3, h.g4, h.ne⟩
theorem set_ne {W : World} {b n g : Nat} {D : SetD} {cs : Array Value} {t : TypeId} {fr : Nat × Nat} (h : SetAt W b n D) (hg : W.heap[g]? = some (.cells cs t fr)) : b ≠ g := fun e => by
  obtain ⟨es, cl, h1, _⟩ := h
  rw [e, hg] at h1
  cases h1
theorem own_neSet {W : World} {B n c sz m b : Nat} {e : TypeId} {ao : Option Addr} {xs : List Value} {D : SetD} (o : W.ownsRow B e sz (.slice ao n c) n xs) (h : SetAt W b m D) : ∀ k, (Value.slice ao n c).ownBlock = some k → k ≠ b := fun k hk e2 => by
  obtain ⟨es, cl, h1, _⟩ := h
  obtain ⟨hl, h0 | ⟨g2, c2, cur, hv, _, hh, _⟩⟩ := o
  · have hn := h0.1
    injection hn with e1 _ _
    rw [e1] at hk
    cases hk
  · injection hv with e1 _ _
    rw [e1] at hk
    simp [Value.ownBlock] at hk
    rw [hk, e2, h1] at hh
    cases hh
/-- The held numbers change. -/
theorem BG.held {w W W' : World} {x : Nee} {nb lb mb hb m m' : Nat} {H H' : SetD} {S : List (Nat × Nat)} {ao : Option Addr} {c : Nat} (h : BG w W x nb lb mb hb m H S ao c) (f : Fr (fun k => k = hb) W W') (s : SetAt W' hb m' H') : BG w W' x nb lb mb hb m' H' S ao c :=
  ⟨(f.block _ (lt_of_heap h.hn) (fun e => set_ne h.h h.hn e.symm)).trans h.hn, (f.block _ (lt_of_heap h.hm) (fun e => set_ne h.h h.hm e.symm)).trans h.hm, h.l.fr f h.ne, s, own_frameB h.o f (fun k hk e => own_neSet h.o h.h k hk e), Fr.trans h.b f (fun k hk e => by have := h.g4; omega), h.g1, h.g2, h.g3, h.g4, h.ne⟩
theorem BG.cell1 {w W W2 : World} {x : Nee} {nb lb mb hb m : Nat} {H : SetD} {S : List (Nat × Nat)} {ao : Option Addr} {c : Nat} (h : BG w W x nb lb mb hb m H S ao c) (g : W.grownBy W2 (Value.slice ao S.length c).ownBlock) : W2.cell? ⟨mb, 1, none⟩ = some (.slice ao S.length c) ∧ W2.frozen? ⟨mb, 1, none⟩ = false := by
  have f : Fr (fun k => (Value.slice ao S.length c).ownBlock = some k) W W2 := Fr.grown (Fr.refl _ _) g (fun k e _ => e)
  have e2 := (f.block _ (lt_of_heap h.hm) (fun e => own_neT h.o h.hm (by decide) _ e rfl)).trans h.hm
  exact ⟨(cell_of_row _ _ _ _ _ _ e2).trans rfl, by simp [World.frozen?, e2]⟩
/-- One spare more. -/
theorem BG.more {w W W2 : World} {x : Nee} {nb lb mb hb m : Nat} {H : SetD} {S : List (Nat × Nat)} {ao ao2 : Option Addr} {c c2 : Nat} {y : Nat × Nat} (h : BG w W x nb lb mb hb m H S ao c) (g : W.grownBy W2 (Value.slice ao S.length c).ownBlock) (o : W2.ownsRow w.heap.size 118 2 (.slice ao2 (S.length + 1) c2) (S.length + 1) (spcells (S ++ [y]))) :
    BG w (W2.setCell ⟨mb, 1, none⟩ (.slice ao2 (S.length + 1) c2)) x nb lb mb hb m H (S ++ [y]) ao2 c2 := by
  have f : Fr (fun k => (Value.slice ao S.length c).ownBlock = some k) W W2 := Fr.grown (Fr.refl _ _) g (fun k e _ => e)
  have f2 : Fr (fun k => k = mb) W2 (W2.setCell ⟨mb, 1, none⟩ (.slice ao2 (S.length + 1) c2)) := (Fr.refl (fun k => k = mb) _).setCell (p := ⟨mb, 1, none⟩) (fun _ => rfl) _
  have e1 := (f.block _ (lt_of_heap h.hn) (fun e => own_neT h.o h.hn (by decide) _ e rfl)).trans h.hn
  have e2 := (f.block _ (lt_of_heap h.hm) (fun e => own_neT h.o h.hm (by decide) _ e rfl)).trans h.hm
  have e3 := h.l.fr f (fun e => own_neSet h.o h.l _ e rfl)
  have e4 := h.h.fr f (fun e => own_neSet h.o h.h _ e rfl)
  have e5 : Same w W2 := Fr.trans h.b f (fun k hk e => by have := own_blk h.o k e; omega)
  have hl : (S ++ [y]).length = S.length + 1 := by simp
  refine ⟨(f2.block _ (lt_of_heap e1) (fun e => ?_)).trans e1, ?_, e3.fr f2 (fun e => set_ne e3 e2 e), e4.fr f2 (fun e => set_ne e4 e2 e), ?_, Fr.trans e5 f2 (fun k hk e => by have := h.g2; omega), h.g1, h.g2, h.g3, h.g4, h.ne⟩
  · rw [e, e2] at e1
    injection e1 with e1
    injection e1 with _ e1 _
    exact absurd e1 (by decide)
  · rw [hl]; exact six_set1 e2 _
  · rw [hl]; exact own_frameB o f2 (fun k hk e => own_neT o e2 (by decide) k hk e)
theorem spL_mem (H : SetD) : ∀ (L : List Bt) (i : Nat) (z : Nat × Nat), z ∈ spL H i L → ∃ y ∈ L, z.1 ∈ y.ns
  | [], _, _, h => by cases h
  | y :: ys, i, z, h => by
    rcases List.mem_append.1 h with h | h
    · unfold spF at h
      obtain ⟨a, ha, rfl⟩ := List.mem_map.1 h
      exact ⟨y, List.mem_cons_self .., (List.mem_filter.1 ha).1⟩
    · obtain ⟨y', h1, h2⟩ := spL_mem H ys (i + 1) z h
      exact ⟨y', List.mem_cons_of_mem _ h1, h2⟩
theorem own_capB {w : World} {B n c sz : Nat} {e : TypeId} {ao : Option Addr} {xs : List Value} (h : w.ownsRow B e sz (.slice ao n c) n xs) : n ≤ c := by
  obtain ⟨hl, h0 | ⟨g2, c2, cur, hv, _, hh, h1, _⟩⟩ := h
  · rw [h0.2]; exact Nat.zero_le _
  · injection hv with _ _ e3
    omega
set_option maxRecDepth 100000 in
set_option maxHeartbeats 1000000 in
theorem begun_calls {x : Nee} (w : World) (hx : NeeAt w x) :
    Calls Try.prog 35 #[.agg x.cells] w fun e w' => ∃ mb M, e = .returned (.pointer (some ⟨mb, 0, none⟩)) ∧ MkAt w w' mb M ∧ M.ca = x.ca ∧ M.cc = x.cc ∧ M.cl = x.L.length ∧ M.S = spL (loD (.map []) x.hs) 0 x.L ∧ M.opened = 0 ∧ M.n = x.rs.length ∧ M.D = loD (.map []) x.rs ∧ M.en = x.pages ∧ M.mo = x.most := by
  have HX : Hid (NeeAt w x) := hx
  have hmm := @run_makeMap Try.prog
  obtain ⟨V0, hV0⟩ : ∃ V, V = w.alloc (.cells x.cells 67) := ⟨_, rfl⟩
  have s0 : Same w V0 := by rw [hV0]; exact (Fr.refl _ w).alloc _
  have r0 : V0.heap[w.heap.size]? = some (.cells x.cells 67 (0, 0)) := by rw [hV0]; exact heap_alloc_new w _
  have HR0 : Hid (∀ W, Same V0 W → W.cell? ⟨w.heap.size, 0, none⟩ = some (.slice x.ca x.L.length x.cc) ∧ W.cell? ⟨w.heap.size, 1, none⟩ = some (.int .u32 (x.pages : Int)) ∧ W.cell? ⟨w.heap.size, 2, none⟩ = some (.slice x.ha x.hs.length x.hc) ∧ W.cell? ⟨w.heap.size, 4, none⟩ = some (.slice x.ra x.rs.length x.rc) ∧ W.cell? ⟨w.heap.size, 5, none⟩ = some (.int .u32 (x.most : Int))) := fun W s => by
    have e := (s.block _ (lt_of_heap r0) (fun f => f)).trans r0
    exact ⟨(cell_of_row _ _ _ _ _ _ e).trans rfl, (cell_of_row _ _ _ _ _ _ e).trans rfl, (cell_of_row _ _ _ _ _ _ e).trans rfl, (cell_of_row _ _ _ _ _ _ e).trans rfl, (cell_of_row _ _ _ _ _ _ e).trans rfl⟩
  have sm : Same V0 (V0.alloc (.map #[] 0)) := (Fr.refl _ V0).alloc _
  obtain ⟨c0, c1, c2, c4, c5⟩ := HR0.out V0 (Fr.refl _ _)
  obtain ⟨d0, d1, d2, d4, d5⟩ := HR0.out _ sm
  rw [hV0] at c0 c1 c2 c4 c5 d0 d1 d2 d4 d5
  unfold Nee.cells at hV0 c0 c1 c2 c4 c5 d0 d1 d2 d4 d5 ⊢
  go_enter Try.func35, Try.ntmps35
  go_wp2_with fail
  obtain ⟨V1, hV1⟩ : ∃ V1, V1 = (((w.alloc (.cells #[.slice x.ca x.L.length x.cc, .int .u32 (x.pages : Int), .slice x.ha x.hs.length x.hc, .int .i64 (x.trees : Int), .slice x.ra x.rs.length x.rc, .int .u32 (x.most : Int)] 67)).alloc (.map #[] 0)).alloc (.cells #[.slice x.ca x.L.length x.cc, .slice none 0 0, .int .i64 0, .map (some (w.heap.size + 1)), .int .u32 (x.pages : Int), .int .u32 (x.most : Int)] 101)).alloc (.map #[] 0) := ⟨_, rfl⟩
  rw [← hV1]
  have HBG : Hid (BG w V1 x w.heap.size (w.heap.size + 1) (w.heap.size + 1 + 1) (w.heap.size + 1 + 1 + 1) 0 (.map []) [] none 0) := by
    have a1 := World.ownsMap_made (w.alloc (.cells #[.slice x.ca x.L.length x.cc, .int .u32 (x.pages : Int), .slice x.ha x.hs.length x.hc, .int .i64 (x.trees : Int), .slice x.ra x.rs.length x.rc, .int .u32 (x.most : Int)] 67)) Try.prog 28 (unitElem (H := Unit))
    have a2 := heap_alloc_new ((w.alloc (.cells #[.slice x.ca x.L.length x.cc, .int .u32 (x.pages : Int), .slice x.ha x.hs.length x.hc, .int .i64 (x.trees : Int), .slice x.ra x.rs.length x.rc, .int .u32 (x.most : Int)] 67)).alloc (.map #[] 0)) (.cells #[.slice x.ca x.L.length x.cc, .slice none 0 0, .int .i64 0, .map (some (w.heap.size + 1)), .int .u32 (x.pages : Int), .int .u32 (x.most : Int)] 101)
    have a3 := World.ownsMap_made (((w.alloc (.cells #[.slice x.ca x.L.length x.cc, .int .u32 (x.pages : Int), .slice x.ha x.hs.length x.hc, .int .i64 (x.trees : Int), .slice x.ra x.rs.length x.rc, .int .u32 (x.most : Int)] 67)).alloc (.map #[] 0)).alloc (.cells #[.slice x.ca x.L.length x.cc, .slice none 0 0, .int .i64 0, .map (some (w.heap.size + 1)), .int .u32 (x.pages : Int), .int .u32 (x.most : Int)] 101)) Try.prog 28 (unitElem (H := Unit))
    simp only [World.size_alloc] at a1 a2 a3
    rw [← hV0] at a1 a2 a3 hV1
    have k1 : Same V0 V1 := by rw [hV1]; exact (((Fr.refl _ V0).alloc _).alloc _).alloc _
    refine ⟨(k1.block _ (lt_of_heap r0) (fun f => f)).trans r0, ?_, ?_, ?_, own_nil, s0.trans k1, Nat.le_refl _, by omega, by omega, by omega, by omega⟩
    · rw [hV1]; exact (((Fr.refl (fun _ => False) _).alloc _).block _ (lt_of_heap a2) (fun f => f)).trans a2
    · rw [hV1]; exact SetAt.fr a1 (((Fr.refl (fun _ => False) _).alloc _).alloc _) (fun f => f)
    · rw [hV1]; exact a3
  obtain ⟨nb, hnb⟩ : ∃ nb, nb = w.heap.size := ⟨_, rfl⟩
  rw [← hnb] at HBG ⊢
  obtain ⟨lb, hlb⟩ : ∃ lb, lb = nb + 1 := ⟨_, rfl⟩
  rw [← hlb] at HBG ⊢
  obtain ⟨mb, hmb⟩ : ∃ mb, mb = lb + 1 := ⟨_, rfl⟩
  rw [← hmb] at HBG ⊢
  obtain ⟨hb, hhb⟩ : ∃ hb, hb = mb + 1 := ⟨_, rfl⟩
  rw [← hhb] at HBG ⊢
  have hnh := hx.bh
  have hnL := hx.bc
  have HNB : Hid (nb = w.heap.size) := hnb
  clear hV0 s0 r0 sm c0 c1 c2 c4 c5 d0 d1 d2 d4 d5 hV1 hnb hlb hmb hhb hx hmm HR0
  obtain ⟨nh, hnn⟩ : ∃ nh, nh = x.hs.length := ⟨_, rfl⟩
  rw [← hnn] at hnh
  have HNH : Hid (nh = x.hs.length) := hnn
  simp only [← hnn]
  clear hnn
  go_loopg [26] nh (fun g iv wr => ∃ (k : Nat) (H' : SetD), iv = .int .i64 (k : Int) ∧ k ≤ nh ∧ g = nh - k ∧ Hid (loD (.map []) x.hs = loD H' (x.hs.drop k)) ∧ Hid (BG w wr x nb lb mb hb k H' [] none 0))
  case atStart => exact ⟨0, .map [], rfl, by omega, rfl, rfl, HBG⟩
  case round =>
    obtain ⟨k, H', rfl, hk, hg, HI, HB⟩ := hrel
    by_cases hgo : k < nh
    · obtain ⟨a, hxa⟩ : ∃ y, x.hs[k]? = some y := ⟨_, List.getElem?_eq_getElem (by rw [← HNH.out]; exact hgo)⟩
      have hr := HX.out.held.same HB.out.b
      have hc := hr.cells k a hxa
      obtain ⟨hpa, _⟩ := hr.place (by intro e; rw [e] at hxa; simp at hxa)
      have HPA : Hid (x.ha = some ⟨x.hb, x.ho, none⟩) := hpa
      have HKY : Hid (keyOf Try.prog 28 (.int .u32 (a : Int)) = some (.int .u32 (a : Int))) := ukeyOf (HX.out.vh a (List.mem_of_getElem? hxa))
      have hdrop : x.hs.drop k = a :: x.hs.drop (k + 1) := by
        have hl : k < x.hs.length := by rw [← HNH.out]; exact hgo
        have e : x.hs[k] = a := by rw [List.getElem?_eq_getElem hl] at hxa; exact Option.some.inj hxa
        rw [List.drop_eq_getElem_cons hl, e]
      have HI2 : Hid (loD (.map []) x.hs = loD (putN H' a) (x.hs.drop (k + 1))) := by show _ = _; rw [HI.out, hdrop]; rfl
      have hmx : k < maxLen := by unfold maxLen; omega
      clear hxa hdrop HI hr hpa
      rw [HPA.out]
      go_wp2_with (at_mapUpdate; refine wpList_mapUpdate_in _ rfl _ _ _ 46 rfl 28 108 ukey Try.underlying46 (unitElem (H := Unit)) hb k H' rfl HB.out.h hmx _ _ _ rfl rfl HKY.out (.agg []) [] unitElem_mk ?_; intro W2 o2 t2)
      have HB2 : Hid (BG w W2 x nb lb mb hb (k + 1) (putN H' a) [] none 0) := HB.out.held (Fr.grown (Fr.refl _ _) t2.grown (fun k e _ => by cases e; rfl)) o2
      clear o2 t2
      rw [← HPA.out]
      go_wp2_with fail
      go_roundg (nh - (k + 1))
      case measure => omega
      case rel => exact ⟨k + 1, putN H' a, by go_num, by omega, rfl, HI2, HB2⟩
    · have hd : x.hs.drop k = [] := List.drop_eq_nil_of_le (by rw [← HNH.out]; omega)
      have HH : Hid (loD (.map []) x.hs = H') := by show _ = _; rw [HI.out, hd]; rfl
      have hkn : k = nh := by omega
      subst hkn
      have c0 : wr.cell? ⟨nb, 0, none⟩ = some (.slice x.ca x.L.length x.cc) := (cell_of_row _ _ _ _ _ _ HB.out.hn).trans rfl
      obtain ⟨nL, hnl⟩ : ∃ nL, nL = x.L.length := ⟨_, rfl⟩
      rw [← hnl] at hnL c0
      have HNL : Hid (nL = x.L.length) := hnl
      clear hnl hd HI hg hk hgo
      go_wp2_with fail
      go_loopg [37] nL (fun g iv wr => ∃ (k2 : Nat) (ao : Option Addr) (c : Nat), iv = .int .i64 (k2 : Int) ∧ k2 ≤ nL ∧ g = nL - k2 ∧ Hid (BG w wr x nb lb mb hb k H' (spL H' 0 (x.L.take k2)) ao c) ∧ Hid ((spL H' 0 (x.L.take k2)).length ≤ 1000 * k2))
      case atStart => exact ⟨0, none, 0, rfl, by omega, rfl, HB, by show _ ≤ _; simp [spL]⟩
      case round =>
        clear c0
        obtain ⟨k2, ao, c, rfl, hk2, hg2, HB1, HLn⟩ := hrel
        by_cases hgo : k2 < nL
        · obtain ⟨y, hxy⟩ : ∃ y, x.L[k2]? = some y := ⟨_, List.getElem?_eq_getElem (by rw [← HNL.out]; exact hgo)⟩
          have hr := HX.out.chain.same HB1.out.b
          obtain ⟨e0, e1, e2⟩ := hr.cells k2 y hxy
          obtain ⟨hpa, _⟩ := hr.place (by intro e; rw [e] at hxy; simp at hxy)
          have HPA : Hid (x.ca = some ⟨x.cb, x.co, none⟩) := hpa
          have HOK : Hid (BtOk w y) := by
            obtain ⟨_, _, e2'⟩ := HX.out.chain.cells k2 y hxy
            exact e2'
          have HTK : Hid (x.L.take (k2 + 1) = x.L.take k2 ++ [y] ∧ (x.L.take k2).length = k2) := ⟨by rw [List.take_add_one, hxy]; rfl, by rw [List.length_take, ← HNL.out]; omega⟩
          obtain ⟨X, hX⟩ : ∃ X, X = wr.alloc (.cells #[.int .u32 (y.pg : Int), .slice y.na y.ns.length y.nc] 53) := ⟨_, rfl⟩
          have sX : Same wr X := by rw [hX]; exact (Fr.refl _ wr).alloc _
          have HBX : Hid (BG w X x nb lb mb hb k H' (spL H' 0 (x.L.take k2)) ao c) := HB1.out.same sX
          obtain ⟨nn, hnn⟩ : ∃ nn, nn = y.ns.length := ⟨_, rfl⟩
          have HNN : Hid (nn = y.ns.length ∧ nn ≤ 1000) := ⟨hnn, by rw [hnn]; exact HOK.out.hl⟩
          have hnn1 : nn ≤ 1000 := HNN.out.2
          rw [← hnn] at e1 hX
          clear hxy hr hpa e2 sX hnn
          rw [HPA.out]
          go_wp2_with fail
          rw [← HPA.out, ← hX]
          clear hX e0 e1
          go_loopg [45] nn (fun g iv wr => ∃ (j : Nat) (ao : Option Addr) (c : Nat) (S : List (Nat × Nat)), iv = .int .i64 (j : Int) ∧ j ≤ nn ∧ g = nn - j ∧ Hid (S = spL H' 0 (x.L.take k2) ++ spF H' k2 (y.ns.take j)) ∧ Hid (BG w wr x nb lb mb hb k H' S ao c) ∧ Hid (S.length ≤ 1000 * k2 + j))
          case atStart => exact ⟨0, ao, c, _, rfl, by omega, rfl, by show _ = _; simp [spF], HBX, HLn⟩
          case round =>
            obtain ⟨j, ao1, c1, S, rfl, hj, hgj, HS, HB2, HL2⟩ := hrel
            by_cases hgo2 : j < nn
            · obtain ⟨a, hxa⟩ : ∃ z, y.ns[j]? = some z := ⟨_, List.getElem?_eq_getElem (by rw [← HNN.out.1]; exact hgo2)⟩
              have hr := HOK.out.row.same HB2.out.b
              have hc := hr.cells j a hxa
              obtain ⟨hpa, _⟩ := hr.place (by intro e; rw [e] at hxa; simp at hxa)
              have HPN : Hid (y.na = some ⟨y.nb, y.no, none⟩) := hpa
              have HKY : Hid (keyOf Try.prog 28 (.int .u32 (a : Int)) = some (.int .u32 (a : Int))) := ukeyOf (HOK.out.hns a (List.mem_of_getElem? hxa))
              have HTJ : Hid (y.ns.take (j + 1) = y.ns.take j ++ [a]) := by show _ = _; rw [List.take_add_one, hxa]; rfl
              have sq : Same wr (wr.alloc (.cells #[] 108)) := (Fr.refl _ wr).alloc _
              have HBQ : Hid (BG w (wr.alloc (.cells #[] 108)) x nb lb mb hb k H' S ao1 c1) := HB2.out.same sq
              clear hxa hr hpa sq
              rw [HPN.out]
              cases hhs : Maps.has H' (.int .u32 (a : Int)) with
              | true =>
                have HS2 : Hid (S = spL H' 0 (x.L.take k2) ++ spF H' k2 (y.ns.take (j + 1))) := by
                  show _ = _
                  rw [HTJ.out, spF_snoc, show hasN H' a = true from hhs, if_pos rfl, List.append_nil]
                  exact HS.out
                go_wp2_with (at_lookup; refine wpList_lookup_own_unit _ rfl _ _ 46 rfl 28 108 ukey Try.underlying46 (uzero _) hb k H' rfl HB2.out.h _ _ rfl HKY.out ?_)
                rw [← HPN.out]
                clear hhs hc
                go_roundg (nn - (j + 1))
                case measure => omega
                case rel => exact ⟨j + 1, ao1, c1, S, by go_num, by omega, rfl, HS2, HBQ, by have := HL2.out; show S.length ≤ _; omega⟩
              | false =>
                have HS2 : Hid (S ++ [(a, k2)] = spL H' 0 (x.L.take k2) ++ spF H' k2 (y.ns.take (j + 1))) := by
                  show _ = _
                  rw [HTJ.out, spF_snoc, show hasN H' a = false from hhs, HS.out]
                  simp
                obtain ⟨Y, hY⟩ : ∃ Y, Y = wr.alloc (.cells #[] 108) := ⟨_, rfl⟩
                rw [← hY] at HBQ
                have m1 : Y.cell? ⟨mb, 1, none⟩ = some (.slice ao1 S.length c1) := (cell_of_row _ _ _ _ _ _ HBQ.out.hm).trans rfl
                have z1 : Y.frozen? ⟨mb, 1, none⟩ = false := by simp [World.frozen?, HBQ.out.hm]
                have sZ : Same Y (Y.alloc (.cells #[.int .u32 (a : Int), .int .i64 (k2 : Int)] 118)) := (Fr.refl _ Y).alloc _
                have HBZ : Hid (BG w (Y.alloc (.cells #[.int .u32 (a : Int), .int .i64 (k2 : Int)] 118)) x nb lb mb hb k H' S ao1 c1) := HBQ.out.same sZ
                have hvb : w.heap.size ≤ (Y.alloc (.cells #[.int .u32 (a : Int), .int .i64 (k2 : Int)] 118)).heap.size := HBZ.out.b.size
                have hsl : S.length + 1 ≤ 1099511627776 := by have := HL2.out; omega
                have HGZ : Hid ((Y.alloc (.cells #[.int .u32 (a : Int), .int .i64 (k2 : Int)] 118)).heap[wr.heap.size + 1]? = some (.cells #[.int .u32 (a : Int), .int .i64 (k2 : Int)] 118 (0, 0))) := by
                  have := heap_alloc_new Y (.cells #[.int .u32 (a : Int), .int .i64 (k2 : Int)] 118)
                  rw [show Y.heap.size = wr.heap.size + 1 from by rw [hY]; simp] at this
                  exact this
                rw [hY] at m1
                go_wp2_with (first | (at_lookup; refine wpList_lookup_own_unit _ rfl _ _ 46 rfl 28 108 ukey Try.underlying46 (uzero _) hb k H' rfl HB2.out.h _ _ rfl HKY.out ?_) | (at_builtin; go_must (rw [← hY]; refine wpList_partSps _ (by rfl) _ _ (by rfl) (by rfl) HBZ.out.o (x := ⟨some ⟨wr.heap.size + 1, 0, none⟩, 1, 1, [.int .u32 (a : Int), .int .i64 (k2 : Int)]⟩) (by rfl) (part_twoSp _ _ HGZ.out rfl rfl) hsl hvb ?_; intro ao2 c2 W2 o2 g2; obtain ⟨n1, z2⟩ := HBZ.out.cell1 g2)))
                have HB4 : Hid (BG w (W2.setCell ⟨mb, 1, none⟩ (.slice ao2 (S.length + 1) c2)) x nb lb mb hb k H' (S ++ [(a, k2)]) ao2 c2) := HBZ.out.more g2 (by rw [spcells_app]; exact o2)
                clear o2 g2 n1 z2 m1 z1 sZ hvb hsl hhs hc hY
                rw [← HPN.out]
                go_roundg (nn - (j + 1))
                case measure => omega
                case rel => exact ⟨j + 1, ao2, c2, S ++ [(a, k2)], by go_num, by omega, rfl, HS2, HB4, by have := HL2.out; show (S ++ [(a, k2)]).length ≤ _; rw [List.length_append]; simp; omega⟩
            · have hjn : j = nn := by omega
              have HS2 : Hid (S = spL H' 0 (x.L.take (k2 + 1))) := by
                show _ = _
                rw [HS.out, HTK.out.1, spL_snoc, HTK.out.2, Nat.zero_add, show y.ns.take j = y.ns from List.take_of_length_le (by rw [← HNN.out.1]; omega)]
              have HB3 : Hid (BG w wr x nb lb mb hb k H' (spL H' 0 (x.L.take (k2 + 1))) ao1 c1) := by rw [← HS2.out]; exact HB2
              have HL3 : Hid ((spL H' 0 (x.L.take (k2 + 1))).length ≤ 1000 * (k2 + 1)) := by rw [← HS2.out]; have := HL2.out; show S.length ≤ _; omega
              go_wp2_with fail
              go_roundg (nL - (k2 + 1))
              case measure => omega
              case rel => exact ⟨k2 + 1, ao1, c1, by go_num, by omega, rfl, HB3, HL3⟩
        · have hkn : k2 = nL := by omega
          have HB3 : Hid (BG w wr x nb lb mb hb k H' (spL H' 0 x.L) ao c) := by
            have := HB1
            rw [List.take_of_length_le (by rw [← HNL.out]; omega)] at this
            exact this
          have HL3 : Hid ((spL H' 0 x.L).length ≤ 100000) := by
            have := HLn.out
            rw [List.take_of_length_le (by rw [← HNL.out]; omega)] at this
            show _ ≤ _
            omega
          have b4 : wr.cell? ⟨nb, 4, none⟩ = some (.slice x.ra x.rs.length x.rc) := (cell_of_row _ _ _ _ _ _ HB3.out.hn).trans rfl
          clear hkn
          go_wp2_with fail
          obtain ⟨g, hsp, hgb⟩ := own_sprow HB3.out.o rfl
          have HM0 : Hid (MkAt w wr mb { ca := x.ca, cc := x.cc, cl := x.L.length, sa := ao, sb := g, so := 0, sc := c, S := spL H' 0 x.L, opened := 0, lb := lb, n := 0, D := .map [], en := x.pages, mo := x.most }) :=
            ⟨HB3.out.hm, HB3.out.l, hsp, fun e => ⟨own_neT HB3.out.o HB3.out.hm (by decide) _ (hgb e), own_neSet HB3.out.o HB3.out.l _ (hgb e)⟩, HB3.out.b, ⟨HB3.out.g2, HB3.out.g3⟩, Nat.zero_le _, fun z hz => by
              obtain ⟨y, h1, h2⟩ := spL_mem _ _ _ _ hz
              obtain ⟨j, hj⟩ := List.mem_iff_getElem?.1 h1
              exact (HX.out.chain.cells j y hj).2.2.hns _ h2, own_capB HB3.out.o, Nat.zero_le _⟩
          clear hsp hgb b4
          refine (loosen_calls (cp := x.rc) HM0.out (HX.out.rel.same HB3.out.b) HX.out.br (by have := HX.out.br; show 0 + _ ≤ _; omega) HX.out.vr).mono ?_
          rintro e W5 ⟨rfl, m5, f5⟩
          have HM5 : Hid (MkAt w W5 mb { ca := x.ca, cc := x.cc, cl := x.L.length, sa := ao, sb := g, so := 0, sc := c, S := spL H' 0 x.L, opened := 0, lb := lb, n := 0 + x.rs.length, D := loD (.map []) x.rs, en := x.pages, mo := x.most }) := m5
          clear m5 f5
          go_wp2_with fail
          go_ret
          exact ⟨mb, _, rfl, HM5.out, rfl, rfl, rfl, by rw [HH.out], rfl, Nat.zero_add _, rfl, rfl, rfl⟩
end Go.Proofs.Ytajbifblbmlffaa
