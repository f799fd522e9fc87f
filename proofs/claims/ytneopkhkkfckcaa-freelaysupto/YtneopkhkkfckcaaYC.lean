/- free: owned and Check, for every chain. -/
import Derived.Test.YtneopkhkkfckcaaEH
namespace Go.Proofs.Ytneopkhkkfckcaa
open Go.RowKit Go.Maps

/-- A batch. -/
structure BvOk (w : World) (x : Bt) : Prop where
  row : NRow w x.na x.nb x.no x.ns
  hpg : x.pg < 4294967296
  hns : ∀ y ∈ x.ns, y < 4294967296
structure BvRow (w : World) (pa : Option Addr) (pb po : Nat) (L : List Bt) : Prop where
  place : L ≠ [] → pa = some ⟨pb, po, none⟩ ∧ pb < w.heap.size
  cells : ∀ (j : Nat) (x : Bt), L[j]? = some x → w.cell? ⟨pb, po + j * 2, none⟩ = some (.int .u32 (x.pg : Int)) ∧ w.cell? ⟨pb, po + j * 2 + 1, none⟩ = some (.slice x.na x.ns.length x.nc) ∧ BvOk w x
theorem BvOk.same {w w' : World} {x : Bt} (h : BvOk w x) (s : Same w w') : BvOk w' x := ⟨h.row.same s, h.hpg, h.hns⟩
theorem BvRow.same {w w' : World} {pa : Option Addr} {pb po : Nat} {L : List Bt} (h : BvRow w pa pb po L) (s : Same w w') : BvRow w' pa pb po L :=
  ⟨fun e => ⟨(h.place e).1, Nat.lt_of_lt_of_le (h.place e).2 s.size⟩, fun j x hx => by
    obtain ⟨h1, h2, h3⟩ := h.cells j x hx
    exact ⟨s.keep h1, s.keep h2, h3.same s⟩⟩
/-- How many numbers batches name. -/
def wt : List Bt → Nat
  | [] => 0
  | x :: L => x.ns.length + 1 + wt L
theorem wt_len (L : List Bt) : L.length ≤ wt L := by
  induction L with
  | nil => exact Nat.le_refl _
  | cons x L ih => simp only [wt, List.length_cons]; omega
/-- Check's answer. -/
def chkE (p q : Int) (pages : Nat) (L : List Bt) : Int := if frameP p q = false then 2 else if pages < 2 ∨ 65536 < pages then 2 else if (ocD p q pages (.map []) L).1 then 0 else 90
set_option maxRecDepth 100000 in
set_option maxHeartbeats 1000000 in
theorem fowned_bad {p q : Int} {pa : Option Addr} {n cp pages : Nat} (w : World) (hbad : frameP p q = false ∨ pages < 2 ∨ 65536 < pages) :
    Calls Try.prog 51 #[frameV p q, .slice pa n cp, .int .u32 (pages : Int)] w fun e w' => (∃ o0 o1 o2 om, e = .returned (.tuple #[.agg #[.int .i64 o0, .int .i64 o1, .int .u32 o2, .map om], .int .i64 2])) ∧ Same w w' := by
  have HM : Hid (∀ W, Calls Try.prog 34 #[.agg #[.int .i64 p, .int .i64 q]] W fun e w' => e = .returned (.bool (frameP p q)) ∧ Same W w') := fun W => may_calls p q W
  obtain ⟨V, hV⟩ : ∃ V, V = (w.alloc (.cells #[.int .i64 p, .int .i64 q] 39)).alloc (.cells #[.int .i64 0, .int .i64 0, .int .u32 0, .map none] 102) := ⟨_, rfl⟩
  have sx : Same w V := by rw [hV]; exact ((Fr.refl _ w).alloc _).alloc _
  have r0 : V.heap[w.heap.size]? = some (.cells #[.int .i64 p, .int .i64 q] 39 (0, 0)) := by rw [hV]; exact (((Fr.refl (fun _ => False) (w.alloc (.cells #[.int .i64 p, .int .i64 q] 39))).alloc _).block _ (by simp) (fun f => f)).trans (heap_alloc_new w _)
  have r1 : V.heap[w.heap.size + 1]? = some (.cells #[.int .i64 0, .int .i64 0, .int .u32 0, .map none] 102 (0, 0)) := by
    rw [hV]
    have := heap_alloc_new (w.alloc (.cells #[.int .i64 p, .int .i64 q] 39)) (.cells #[.int .i64 0, .int .i64 0, .int .u32 0, .map none] 102)
    simpa using this
  have HR1 : Hid (V.heap[w.heap.size + 1]? = some (.cells #[.int .i64 0, .int .i64 0, .int .u32 0, .map none] 102 (0, 0))) := r1
  have a0 : V.cell? ⟨w.heap.size, 0, none⟩ = some (.int .i64 p) := (cell_of_row _ _ _ _ _ _ r0).trans rfl
  have a1 : V.cell? ⟨w.heap.size, 1, none⟩ = some (.int .i64 q) := (cell_of_row _ _ _ _ _ _ r0).trans rfl
  have HSX : Hid (Same w V) := sx
  have HWV : Hid (w.heap.size < V.heap.size) := by show _ < _; rw [hV, World.size_alloc, World.size_alloc]; omega
  have fin : ∀ W, Same V W → Hid (W.heap[w.heap.size + 1]? = some (.cells #[.int .i64 0, .int .i64 0, .int .u32 0, .map none] 102 (0, 0))) := fun W s => (s.block _ (lt_of_heap HR1.out) (fun f => f)).trans HR1.out
  have HFin : Hid (∀ W, Same V W → Hid (W.heap[w.heap.size + 1]? = some (.cells #[.int .i64 0, .int .i64 0, .int .u32 0, .map none] 102 (0, 0)))) := fin
  clear fin r0 r1
  rw [hV] at a0 a1
  rcases hbad with hf | hf
  · rw [hf] at HM
    go_enter Try.func51, Try.ntmps51
    go_wp2_with fail
    rw [← hV]
    clear hV a0 a1 sx
    refine (HM.out _).mono ?_
    rintro e W0 ⟨rfl, s0⟩
    have HS0 : Hid (Same V W0) := s0
    clear s0
    have hres := HFin.out W0 HS0.out
    go_wp2_with (refine wpList_store_whole (by rfl) 102 _ _ (by rfl) (w.heap.size + 1) #[.int .i64 0, .int .i64 0, .int .u32 0, .map none] _ 102 (by rfl) (by rfl) hres.out rfl (by kernel_rfl) (by kernel_rfl) ?_; intro W7 r7 f7)
    try go_wp2_with fail
    refine bodyPost_ret (results_row_tmp1 rfl _ _ _ _ _ _ _ rfl r7 Try.underlying102 rfl (by kernel_rfl)) rfl ?_
    exact ⟨⟨_, _, _, _, rfl⟩, Fr.trans (HSX.out.trans HS0.out) f7 (fun kk hk e => by have := HWV.out; omega)⟩
  · have hpc : ((pages : Int) < 2 ∧ decide ((pages : Int) < 2) = true) ∨ (decide ((pages : Int) < 2) = false ∧ (65536 : Int) < (pages : Int)) := by
      rcases hf with h | h
      · exact .inl ⟨by omega, decide_eq_true (by omega)⟩
      · exact .inr ⟨decide_eq_false (by omega), by omega⟩
    clear hf
    cases hfp : frameP p q with
    | false =>
      rw [hfp] at HM
      go_enter Try.func51, Try.ntmps51
      go_wp2_with fail
      rw [← hV]
      clear hV a0 a1 sx hpc
      refine (HM.out _).mono ?_
      rintro e W0 ⟨rfl, s0⟩
      have HS0 : Hid (Same V W0) := s0
      clear s0
      have hres := HFin.out W0 HS0.out
      go_wp2_with (refine wpList_store_whole (by rfl) 102 _ _ (by rfl) (w.heap.size + 1) #[.int .i64 0, .int .i64 0, .int .u32 0, .map none] _ 102 (by rfl) (by rfl) hres.out rfl (by kernel_rfl) (by kernel_rfl) ?_; intro W7 r7 f7)
      try go_wp2_with fail
      refine bodyPost_ret (results_row_tmp1 rfl _ _ _ _ _ _ _ rfl r7 Try.underlying102 rfl (by kernel_rfl)) rfl ?_
      exact ⟨⟨_, _, _, _, rfl⟩, Fr.trans (HSX.out.trans HS0.out) f7 (fun kk hk e => by have := HWV.out; omega)⟩
    | true =>
      rw [hfp] at HM
      go_enter Try.func51, Try.ntmps51
      go_wp2_with fail
      rw [← hV]
      clear hV a0 a1 sx
      refine (HM.out _).mono ?_
      rintro e W0 ⟨rfl, s0⟩
      have HS0 : Hid (Same V W0) := s0
      clear s0
      rcases hpc with ⟨h1, h2⟩ | ⟨h1, h2⟩
      · have hres := HFin.out W0 HS0.out
        go_wp2_with (refine wpList_store_whole (by rfl) 102 _ _ (by rfl) (w.heap.size + 1) #[.int .i64 0, .int .i64 0, .int .u32 0, .map none] _ 102 (by rfl) (by rfl) hres.out rfl (by kernel_rfl) (by kernel_rfl) ?_; intro W7 r7 f7)
        try go_wp2_with fail
        refine bodyPost_ret (results_row_tmp1 rfl _ _ _ _ _ _ _ rfl r7 Try.underlying102 rfl (by kernel_rfl)) rfl ?_
        exact ⟨⟨_, _, _, _, rfl⟩, Fr.trans (HSX.out.trans HS0.out) f7 (fun kk hk e => by have := HWV.out; omega)⟩
      · have hres := HFin.out W0 HS0.out
        go_wp2_with (refine wpList_store_whole (by rfl) 102 _ _ (by rfl) (w.heap.size + 1) #[.int .i64 0, .int .i64 0, .int .u32 0, .map none] _ 102 (by rfl) (by rfl) hres.out rfl (by kernel_rfl) (by kernel_rfl) ?_; intro W7 r7 f7)
        try go_wp2_with fail
        refine bodyPost_ret (results_row_tmp1 rfl _ _ _ _ _ _ _ rfl r7 Try.underlying102 rfl (by kernel_rfl)) rfl ?_
        exact ⟨⟨_, _, _, _, rfl⟩, Fr.trans (HSX.out.trans HS0.out) f7 (fun kk hk e => by have := HWV.out; omega)⟩
set_option maxRecDepth 100000 in
set_option maxHeartbeats 1000000 in
theorem fowned_gen {p q : Int} {pa : Option Addr} {pb po cp pages : Nat} {L : List Bt} (w : World) (hr : BvRow w pa pb po L) (hwt : wt L ≤ 2000000) (hfr : frameP p q = true) (hp1 : 2 ≤ pages) (hp2 : pages ≤ 65536) :
    Calls Try.prog 51 #[frameV p q, .slice pa L.length cp, .int .u32 (pages : Int)] w fun e w' => (∃ o0 o1 o2 om, e = .returned (.tuple #[.agg #[.int .i64 o0, .int .i64 o1, .int .u32 o2, .map om], .int .i64 (if (ocD p q pages (.map []) L).1 then 0 else 90)])) ∧ Same w w' := by
  have HM : Hid (∀ W, Calls Try.prog 34 #[.agg #[.int .i64 p, .int .i64 q]] W fun e w' => e = .returned (.bool true) ∧ Same W w') := fun W => by rw [← hfr]; exact may_calls p q W
  obtain ⟨V, hV⟩ : ∃ V, V = (w.alloc (.cells #[.int .i64 p, .int .i64 q] 39)).alloc (.cells #[.int .i64 0, .int .i64 0, .int .u32 0, .map none] 102) := ⟨_, rfl⟩
  have sx : Same w V := by rw [hV]; exact ((Fr.refl _ w).alloc _).alloc _
  have r0 : V.heap[w.heap.size]? = some (.cells #[.int .i64 p, .int .i64 q] 39 (0, 0)) := by rw [hV]; exact (((Fr.refl (fun _ => False) (w.alloc (.cells #[.int .i64 p, .int .i64 q] 39))).alloc _).block _ (by simp) (fun f => f)).trans (heap_alloc_new w _)
  have r1 : V.heap[w.heap.size + 1]? = some (.cells #[.int .i64 0, .int .i64 0, .int .u32 0, .map none] 102 (0, 0)) := by
    rw [hV]
    have := heap_alloc_new (w.alloc (.cells #[.int .i64 p, .int .i64 q] 39)) (.cells #[.int .i64 0, .int .i64 0, .int .u32 0, .map none] 102)
    simpa using this
  have HR0 : Hid (V.heap[w.heap.size]? = some (.cells #[.int .i64 p, .int .i64 q] 39 (0, 0)) ∧ V.heap[w.heap.size + 1]? = some (.cells #[.int .i64 0, .int .i64 0, .int .u32 0, .map none] 102 (0, 0))) := ⟨r0, r1⟩
  have a0 : V.cell? ⟨w.heap.size, 0, none⟩ = some (.int .i64 p) := (cell_of_row _ _ _ _ _ _ r0).trans rfl
  have a1 : V.cell? ⟨w.heap.size, 1, none⟩ = some (.int .i64 q) := (cell_of_row _ _ _ _ _ _ r0).trans rfl
  have hpi1 : decide ((pages : Int) < 2) = false := decide_eq_false (by omega)
  have hpi2 : decide ((65536 : Int) < (pages : Int)) = false := decide_eq_false (by omega)
  have hmm := @run_makeMap Try.prog
  have HBR : Hid (BvRow V pa pb po L) := hr.same sx
  have hl : L.length ≤ 2000000 := Nat.le_trans (wt_len L) hwt
  obtain ⟨n, hnn⟩ : ∃ n, n = L.length := ⟨_, rfl⟩
  rw [← hnn] at hl ⊢
  have HN : Hid (n = L.length) := hnn
  obtain ⟨ce, hce⟩ : ∃ ce : Int, ce = (if (ocD p q pages (.map []) L).1 then 0 else 90) := ⟨_, rfl⟩
  rw [← hce]
  have HCE : Hid (ce = (if (ocD p q pages (.map []) L).1 then 0 else 90)) := hce
  clear hce
  clear hr hnn hfr r0 r1 hp1 hp2
  rw [hV] at a0 a1
  go_enter Try.func51, Try.ntmps51
  go_wp2_with fail
  rw [← hV]
  clear hV
  refine (HM.out _).mono ?_
  rintro e W0 ⟨rfl, s0⟩
  have t0 := s0
  have c0 : W0.cell? ⟨w.heap.size, 0, none⟩ = some (.int .i64 p) := (cell_of_row _ _ _ _ _ _ ((s0.block _ (lt_of_heap HR0.out.1) (fun f => f)).trans HR0.out.1)).trans rfl
  have c1 : W0.cell? ⟨w.heap.size, 1, none⟩ = some (.int .i64 q) := (cell_of_row _ _ _ _ _ _ ((s0.block _ (lt_of_heap HR0.out.1) (fun f => f)).trans HR0.out.1)).trans rfl
  clear a0 a1
  go_wp2_with fail
  obtain ⟨b, hb⟩ : ∃ b, b = W0.heap.size := ⟨_, rfl⟩
  obtain ⟨V1, hV1⟩ : ∃ V1, V1 = (W0.alloc (.map #[] 0)).alloc (.cells #[.int .i64 p, .int .i64 q, .int .u32 (pages : Int), .map (some W0.heap.size)] 102) := ⟨_, rfl⟩
  have m1 : SetAt V1 b 0 (.map []) := by
    rw [hV1, hb]
    exact SetAt.fr (World.ownsMap_made W0 Try.prog 24 (unitElem (H := Unit))) ((Fr.refl (fun _ => False) _).alloc _) (fun f => f)
  have g1 : V1.heap[b + 1]? = some (.cells #[.int .i64 p, .int .i64 q, .int .u32 (pages : Int), .map (some b)] 102 (0, 0)) := by
    rw [hV1, hb]
    have := heap_alloc_new (W0.alloc (.map #[] 0)) (.cells #[.int .i64 p, .int .i64 q, .int .u32 (pages : Int), .map (some W0.heap.size)] 102)
    simpa using this
  have s1 : Same V V1 := by rw [hV1]; exact ((t0.alloc _)).alloc _
  rw [← hV1, ← hb]
  have HVB : Hid (V.heap.size ≤ b) := by rw [hb]; exact s0.size
  have HWV : Hid (w.heap.size ≤ V.heap.size) := sx.size
  have HS1 : Hid (Same V V1) := s1
  clear hV1 hb s0 t0 c0 c1 s1
  go_loopg [29] n (fun g iv wr => ∃ (k : Nat) (D' : SetD), iv = .int .i64 (k : Int) ∧ k ≤ n ∧ g = n - k ∧ Hid (ocD p q pages (.map []) L = ocD p q pages D' (L.drop k)) ∧ Hid (∃ m, m + wt (L.drop k) ≤ 2000000 ∧ SetAt wr b m D') ∧ Hid (wr.heap[b + 1]? = some (.cells #[.int .i64 p, .int .i64 q, .int .u32 (pages : Int), .map (some b)] 102 (0, 0))) ∧ Hid (Same V wr))
  case atStart => exact ⟨0, .map [], rfl, by omega, rfl, rfl, ⟨0, by rw [List.drop_zero, Nat.zero_add]; exact hwt, m1⟩, g1, HS1⟩
  case round =>
    clear m1 g1
    obtain ⟨k, D', rfl, hk, hg, HI, HS, HG, HF⟩ := hrel
    have o0 : wr.cell? ⟨b + 1, 0, none⟩ = some (.int .i64 p) := (cell_of_row _ _ _ _ _ _ HG.out).trans rfl
    have o1 : wr.cell? ⟨b + 1, 1, none⟩ = some (.int .i64 q) := (cell_of_row _ _ _ _ _ _ HG.out).trans rfl
    have o2 : wr.cell? ⟨b + 1, 2, none⟩ = some (.int .u32 (pages : Int)) := (cell_of_row _ _ _ _ _ _ HG.out).trans rfl
    have o3 : wr.cell? ⟨b + 1, 3, none⟩ = some (.map (some b)) := (cell_of_row _ _ _ _ _ _ HG.out).trans rfl
    by_cases hgo : k < n
    · obtain ⟨x, hx⟩ : ∃ x, L[k]? = some x := ⟨_, List.getElem?_eq_getElem (by rw [← HN.out]; exact hgo)⟩
      obtain ⟨h1, h2, h3⟩ := (HBR.out.same HF.out).cells k x hx
      obtain ⟨hpa, hlt⟩ := (HBR.out.same HF.out).place (by intro e; rw [e] at hx; simp at hx)
      subst hpa
      have hdrop : L.drop k = x :: L.drop (k + 1) := by
        have hl : k < L.length := by rw [← HN.out]; exact hgo
        have e : L[k] = x := by rw [List.getElem?_eq_getElem hl] at hx; exact Option.some.inj hx
        rw [List.drop_eq_getElem_cons hl, e]
      have HI2 : Hid (ocD p q pages (.map []) L = if (obD p q pages D' x.pg x.ns).1 = false then obD p q pages D' x.pg x.ns else ocD p q pages (obD p q pages D' x.pg x.ns).2 (L.drop (k + 1))) := by
        show _ = _
        rw [HI.out, hdrop]; rfl
      obtain ⟨m, hm, hms⟩ := HS.out
      have hm2 : m + (x.ns.length + 1 + wt (L.drop (k + 1))) ≤ 2000000 := by rw [hdrop] at hm; exact hm
      obtain ⟨X, hX⟩ : ∃ X, X = wr.alloc (.cells #[.int .u32 (x.pg : Int), .slice x.na x.ns.length x.nc] 55) := ⟨_, rfl⟩
      have sX : Same wr X := by rw [hX]; exact (Fr.refl _ wr).alloc _
      have HX : Hid (Same V X) := HF.out.trans sX
      have HGX : Hid (X.heap[b + 1]? = some (.cells #[.int .i64 p, .int .i64 q, .int .u32 (pages : Int), .map (some b)] 102 (0, 0))) := (sX.block _ (lt_of_heap HG.out) (fun f => f)).trans HG.out
      have HCB : Hid (Calls Try.prog 61 #[.agg #[.int .i64 p, .int .i64 q, .int .u32 (pages : Int), .map (some b)], .agg #[.int .u32 (x.pg : Int), .slice x.na x.ns.length x.nc]] X fun e w' => e = .returned (.bool (obD p q pages D' x.pg x.ns).1) ∧ SetAt w' b (m + 1 + x.ns.length) (obD p q pages D' x.pg x.ns).2 ∧ Fr (fun k => k = b) X w') :=
        fownBatch_calls (p := p) (q := q) (pages := pages) (cp := x.nc) X (h3.same sX).row (hms.fr sX (fun f => f)) (by omega) (by omega) h3.hns h3.hpg
      have HM2 : Hid (m + 1 + x.ns.length + wt (L.drop (k + 1)) ≤ 2000000) := by show _ ≤ _; omega
      have u0 : X.cell? ⟨b + 1, 0, none⟩ = some (.int .i64 p) := sX.keep o0
      have u1 : X.cell? ⟨b + 1, 1, none⟩ = some (.int .i64 q) := sX.keep o1
      have u2 : X.cell? ⟨b + 1, 2, none⟩ = some (.int .u32 (pages : Int)) := sX.keep o2
      have u3 : X.cell? ⟨b + 1, 3, none⟩ = some (.map (some b)) := sX.keep o3
      rw [hX] at u0 u1 u2 u3
      clear hx hdrop HI h3 sX hm hms hm2
      go_wp2_with fail
      rw [← hX]
      clear hX u0 u1 u2 u3 o0 o1 o2 o3 h1 h2
      refine HCB.out.mono ?_
      rintro e W1 ⟨rfl, q1, f1⟩
      have HS2 : Hid (∃ m, m + wt (L.drop (k + 1)) ≤ 2000000 ∧ SetAt W1 b m (obD p q pages D' x.pg x.ns).2) := ⟨_, HM2.out, q1⟩
      have HG2 : Hid (W1.heap[b + 1]? = some (.cells #[.int .i64 p, .int .i64 q, .int .u32 (pages : Int), .map (some b)] 102 (0, 0))) := (f1.block _ (lt_of_heap HGX.out) (by omega)).trans HGX.out
      have HF2 : Hid (Same V W1) := Fr.trans HX.out f1 (fun kk hk e => by have := HVB.out; omega)
      clear q1 f1 HCB HM2 HS
      cases hob : (obD p q pages D' x.pg x.ns).1 with
      | true =>
        have HI3 : Hid (ocD p q pages (.map []) L = ocD p q pages (obD p q pages D' x.pg x.ns).2 (L.drop (k + 1))) := by
          show _ = _
          rw [HI2.out, hob]; rfl
        clear HI2
        go_wp2_with fail
        go_roundg (n - (k + 1))
        case measure => omega
        case rel => exact ⟨k + 1, _, by go_num, by omega, rfl, HI3, HS2, HG2, HF2⟩
      | false =>
        have hr : Hid ((ocD p q pages (.map []) L).1 = false) := by
          show _ = _
          rw [HI2.out, hob]; exact hob
        clear HI2
        have hres := (HF2.out.block _ (lt_of_heap HR0.out.2) (fun f => f)).trans HR0.out.2
        go_wp2_with (refine wpList_store_whole (by rfl) 102 _ _ (by rfl) (w.heap.size + 1) #[.int .i64 0, .int .i64 0, .int .u32 0, .map none] _ 102 (by rfl) (by rfl) hres rfl (by kernel_rfl) (by kernel_rfl) ?_; intro W7 r7 f7)
        go_wp2_with fail
        refine bodyPost_ret (results_row_tmp1 rfl _ _ _ _ _ _ _ rfl r7 Try.underlying102 rfl (by kernel_rfl)) rfl ?_
        obtain rfl : ce = 90 := by rw [HCE.out, hr.out]; rfl
        exact ⟨⟨_, _, _, _, rfl⟩, Fr.trans (sx.trans HF2.out) f7 (fun kk hk e => by omega)⟩
    · have hd : L.drop k = [] := List.drop_eq_nil_of_le (by rw [← HN.out]; omega)
      have hr : Hid (ocD p q pages (.map []) L = (true, D')) := by show _ = _; rw [HI.out, hd]; rfl
      have hkn : k = n := by omega
      subst hkn
      have hres := (HF.out.block _ (lt_of_heap HR0.out.2) (fun f => f)).trans HR0.out.2
      go_wp2_with (refine wpList_store_whole (by rfl) 102 _ _ (by rfl) (w.heap.size + 1) #[.int .i64 p, .int .i64 q, .int .u32 (pages : Int), .map (some b)] _ 102 (by rfl) (by rfl) hres rfl (by kernel_rfl) (by kernel_rfl) ?_; intro W7 r7 f7)
      go_wp2_with fail
      refine bodyPost_ret (results_row_tmp1 rfl _ _ _ _ _ _ _ rfl r7 Try.underlying102 rfl (by kernel_rfl)) rfl ?_
      obtain rfl : ce = 0 := by rw [HCE.out, hr.out]; rfl
      exact ⟨⟨_, _, _, _, rfl⟩, Fr.trans (sx.trans HF.out) f7 (fun kk hk e => by omega)⟩
set_option maxRecDepth 100000 in
theorem fcheck_calls {p q : Int} {pa : Option Addr} {pb po cp pages : Nat} {L : List Bt} (w : World) (hr : BvRow w pa pb po L) (hwt : wt L ≤ 2000000) :
    Calls Try.prog 31 #[frameV p q, .slice pa L.length cp, .int .u32 (pages : Int)] w fun e w' => e = .returned (.int .i64 (chkE p q pages L)) ∧ Same w w' := by
  have HO : Hid (∀ W, Same w W → Calls Try.prog 51 #[.agg #[.int .i64 p, .int .i64 q], .slice pa L.length cp, .int .u32 (pages : Int)] W fun e w' => (∃ o0 o1 o2 om, e = .returned (.tuple #[.agg #[.int .i64 o0, .int .i64 o1, .int .u32 o2, .map om], .int .i64 (chkE p q pages L)])) ∧ Same W w') := fun W s => by
    unfold chkE
    by_cases h1 : frameP p q = false
    · rw [if_pos h1]; exact fowned_bad W (Or.inl h1)
    · rw [if_neg h1]
      by_cases h2 : pages < 2 ∨ 65536 < pages
      · rw [if_pos h2]; exact fowned_bad W (Or.inr h2)
      · rw [if_neg h2]
        exact fowned_gen W (hr.same s) hwt (by simpa using h1) (by omega) (by omega)
  generalize chkE p q pages L = ce at *
  generalize L.length = n at *
  obtain ⟨V, hV⟩ : ∃ V, V = w.alloc (.cells #[.int .i64 p, .int .i64 q] 39) := ⟨_, rfl⟩
  have sx : Same w V := by rw [hV]; exact (Fr.refl _ w).alloc _
  have c0 : V.cell? ⟨w.heap.size, 0, none⟩ = some (.int .i64 p) := by rw [hV]; simp
  have c1 : V.cell? ⟨w.heap.size, 1, none⟩ = some (.int .i64 q) := by rw [hV]; simp
  have HSX : Hid (Same w V) := sx
  rw [hV] at c0 c1
  clear hr hwt sx
  go_enter Try.func31, Try.ntmps31
  go_wp2_with fail
  rw [← hV]
  refine (HO.out _ HSX.out).mono ?_
  rintro e W1 ⟨⟨o0, o1, o2, om, rfl⟩, s1⟩
  have HS1 : Hid (Same w (W1.alloc (.cells #[.int .i64 0, .int .i64 0, .int .u32 0, .map none] 102))) := (HSX.out.trans s1).trans ((Fr.refl _ W1).alloc _)
  obtain ⟨W2, hW2⟩ : ∃ W2, W2 = W1.alloc (.cells #[.int .i64 0, .int .i64 0, .int .u32 0, .map none] 102) := ⟨_, rfl⟩
  have hres : (W1.alloc (.cells #[.int .i64 0, .int .i64 0, .int .u32 0, .map none] 102)).heap[W1.heap.size]? = some (.cells #[.int .i64 0, .int .i64 0, .int .u32 0, .map none] 102 (0, 0)) := heap_alloc_new W1 _
  have HWz : Hid (w.heap.size ≤ W1.heap.size) := (HSX.out.trans s1).size
  clear s1 hV c0 c1 hW2
  go_wp2_with (refine wpList_store_whole (by rfl) 102 _ _ (by rfl) W1.heap.size #[.int .i64 o0, .int .i64 o1, .int .u32 o2, .map om] _ 102 (by rfl) (by rfl) hres rfl (by kernel_rfl) (by kernel_rfl) ?_; intro W7 r7 f7)
  try go_wp2_with fail
  go_ret
  exact ⟨rfl, Fr.trans HS1.out f7 (fun kk hk e => by have := HWz.out; omega)⟩
end Go.Proofs.Ytneopkhkkfckcaa
