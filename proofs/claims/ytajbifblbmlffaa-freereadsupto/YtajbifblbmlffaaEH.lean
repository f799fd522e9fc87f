/- free: owned. -/
import Derived.Test.YtajbifblbmlffaaEG
namespace Go.Proofs.Ytajbifblbmlffaa
open Go.RowKit Go.Maps

/-- A batch as it stands in memory. -/
structure Bt where
  pg : Nat
  na : Option Addr
  nb : Nat
  no : Nat
  nc : Nat
  ns : List Nat
structure BtOk (w : World) (x : Bt) : Prop where
  row : NRow w x.na x.nb x.no x.ns
  hpg : x.pg < 4294967296
  hns : ∀ y ∈ x.ns, y < 4294967296
  hl : x.ns.length ≤ 1000
structure BtRow (w : World) (pa : Option Addr) (pb po : Nat) (L : List Bt) : Prop where
  place : L ≠ [] → pa = some ⟨pb, po, none⟩ ∧ pb < w.heap.size
  cells : ∀ (j : Nat) (x : Bt), L[j]? = some x → w.cell? ⟨pb, po + j * 2, none⟩ = some (.int .u32 (x.pg : Int)) ∧ w.cell? ⟨pb, po + j * 2 + 1, none⟩ = some (.slice x.na x.ns.length x.nc) ∧ BtOk w x
theorem BtOk.same {w w' : World} {x : Bt} (h : BtOk w x) (s : Same w w') : BtOk w' x := ⟨h.row.same s, h.hpg, h.hns, h.hl⟩
theorem BtRow.same {w w' : World} {pa : Option Addr} {pb po : Nat} {L : List Bt} (h : BtRow w pa pb po L) (s : Same w w') : BtRow w' pa pb po L :=
  ⟨fun e => ⟨(h.place e).1, Nat.lt_of_lt_of_le (h.place e).2 s.size⟩, fun j x hx => by
    obtain ⟨h1, h2, h3⟩ := h.cells j x hx
    exact ⟨s.keep h1, s.keep h2, h3.same s⟩⟩
/-- What batches make of the owned numbers. -/
def ocD (p q : Int) (pages : Nat) : SetD → List Bt → Bool × SetD
  | D, [] => (true, D)
  | D, x :: xs => if (obD p q pages D x.pg x.ns).1 = false then obD p q pages D x.pg x.ns else ocD p q pages (obD p q pages D x.pg x.ns).2 xs
def ownersV (p q : Int) (pages b : Nat) : Value := .agg #[.int .i64 p, .int .i64 q, .int .u32 (pages : Int), .map (some b)]
theorem results_row_tmp1 {P : Program} {fn : Func} {p u : Tmp} {ty : TypeId} (h : fn.results = #[.cell p ty, .tmp u]) (tmps : Array Value) (w : World) (g : Nat) (t : TypeId) (cs : Array Value) (fr : Nat × Nat) (d : TypeDesc)
    (hp : tmps.getD p undef = .pointer (some ⟨g, 0, none⟩)) (hg : w.heap[g]? = some (.cells cs t fr))
    (hu : P.underlying ty = some d) (hd : (match d with | .struct _ | .array _ _ => true | _ => false) = true) (hi : (P.info? ty).map (·.size) = some cs.size) :
    (results fn tmps).run P w = .ok (.tuple #[.agg cs, tmps.getD u undef]) w := by
  have hp' : tmps[p]?.getD undef = .pointer (some ⟨g, 0, none⟩) := by simpa using hp
  simp [results, h, hp', asAddr, run_loadVar_row w g t ty cs fr d hg hu hd hi]
set_option maxRecDepth 100000 in
set_option maxHeartbeats 1000000 in
theorem fowned_good {p q : Int} {pa : Option Addr} {pb po cp pages : Nat} {L : List Bt} (w : World) (hr : BtRow w pa pb po L) (hl : L.length ≤ 100) (hfr : frameP p q = true) (hp1 : 2 ≤ pages) (hp2 : pages ≤ 65536) (hok : (ocD p q pages (.map []) L).1 = true) :
    Calls Try.prog 11 #[frameV p q, .slice pa L.length cp, .int .u32 (pages : Int)] w fun e w' => ∃ b, e = .returned (.tuple #[ownersV p q pages b, .int .i64 0]) ∧ w.heap.size ≤ b ∧ SetAt w' b (1001 * L.length) (ocD p q pages (.map []) L).2 ∧ Same w w' := by
  have HM : Hid (∀ W, Calls Try.prog 25 #[.agg #[.int .i64 p, .int .i64 q]] W fun e w' => e = .returned (.bool true) ∧ Same W w') := fun W => by rw [← hfr]; exact may_calls p q W
  obtain ⟨V, hV⟩ : ∃ V, V = (w.alloc (.cells #[.int .i64 p, .int .i64 q] 23)).alloc (.cells #[.int .i64 0, .int .i64 0, .int .u32 0, .map none] 48) := ⟨_, rfl⟩
  have sx : Same w V := by rw [hV]; exact ((Fr.refl _ w).alloc _).alloc _
  have r0 : V.heap[w.heap.size]? = some (.cells #[.int .i64 p, .int .i64 q] 23 (0, 0)) := by rw [hV]; exact (((Fr.refl (fun _ => False) (w.alloc (.cells #[.int .i64 p, .int .i64 q] 23))).alloc _).block _ (by simp) (fun f => f)).trans (heap_alloc_new w _)
  have r1 : V.heap[w.heap.size + 1]? = some (.cells #[.int .i64 0, .int .i64 0, .int .u32 0, .map none] 48 (0, 0)) := by
    rw [hV]
    have := heap_alloc_new (w.alloc (.cells #[.int .i64 p, .int .i64 q] 23)) (.cells #[.int .i64 0, .int .i64 0, .int .u32 0, .map none] 48)
    simpa using this
  have HR0 : Hid (V.heap[w.heap.size]? = some (.cells #[.int .i64 p, .int .i64 q] 23 (0, 0)) ∧ V.heap[w.heap.size + 1]? = some (.cells #[.int .i64 0, .int .i64 0, .int .u32 0, .map none] 48 (0, 0))) := ⟨r0, r1⟩
  have a0 : V.cell? ⟨w.heap.size, 0, none⟩ = some (.int .i64 p) := (cell_of_row _ _ _ _ _ _ r0).trans rfl
  have a1 : V.cell? ⟨w.heap.size, 1, none⟩ = some (.int .i64 q) := (cell_of_row _ _ _ _ _ _ r0).trans rfl
  have hpi1 : decide ((pages : Int) < 2) = false := decide_eq_false (by omega)
  have hpi2 : decide ((65536 : Int) < (pages : Int)) = false := decide_eq_false (by omega)
  have hmm := @run_makeMap Try.prog
  have HBR : Hid (BtRow V pa pb po L) := hr.same sx
  have HOK : Hid ((ocD p q pages (.map []) L).1 = true) := hok
  obtain ⟨n, hnn⟩ : ∃ n, n = L.length := ⟨_, rfl⟩
  rw [← hnn] at hl ⊢
  have HN : Hid (n = L.length) := hnn
  clear hr hnn hok hfr r0 r1 hp1 hp2
  rw [hV] at a0 a1
  go_enter Try.func11, Try.ntmps11
  go_wp2_with fail
  rw [← hV]
  clear hV
  refine (HM.out _).mono ?_
  rintro e W0 ⟨rfl, s0⟩
  have t0 := s0
  have c0 : W0.cell? ⟨w.heap.size, 0, none⟩ = some (.int .i64 p) := (cell_of_row _ _ _ _ _ _ ((s0.block _ (lt_of_heap HR0.out.1) (fun f => f)).trans HR0.out.1)).trans rfl
  have c1 : W0.cell? ⟨w.heap.size, 1, none⟩ = some (.int .i64 q) := (cell_of_row _ _ _ _ _ _ ((s0.block _ (lt_of_heap HR0.out.1) (fun f => f)).trans HR0.out.1)).trans rfl
  clear a0 a1
  go_wp2_with fail
  obtain ⟨b, hb⟩ : ∃ b, b = W0.heap.size := ⟨_, rfl⟩
  obtain ⟨V1, hV1⟩ : ∃ V1, V1 = (W0.alloc (.map #[] 0)).alloc (.cells #[.int .i64 p, .int .i64 q, .int .u32 (pages : Int), .map (some W0.heap.size)] 48) := ⟨_, rfl⟩
  have m1 : SetAt V1 b 0 (.map []) := by
    rw [hV1, hb]
    exact SetAt.fr (World.ownsMap_made W0 Try.prog 28 (unitElem (H := Unit))) ((Fr.refl (fun _ => False) _).alloc _) (fun f => f)
  have g1 : V1.heap[b + 1]? = some (.cells #[.int .i64 p, .int .i64 q, .int .u32 (pages : Int), .map (some b)] 48 (0, 0)) := by
    rw [hV1, hb]
    have := heap_alloc_new (W0.alloc (.map #[] 0)) (.cells #[.int .i64 p, .int .i64 q, .int .u32 (pages : Int), .map (some W0.heap.size)] 48)
    simpa using this
  have s1 : Same V V1 := by rw [hV1]; exact ((t0.alloc _)).alloc _
  rw [← hV1, ← hb]
  have HVB : Hid (V.heap.size ≤ b) := by rw [hb]; exact s0.size
  have HWV : Hid (w.heap.size ≤ V.heap.size) := sx.size
  have HS1 : Hid (Same V V1) := s1
  clear hV1 hb s0 t0 c0 c1 s1
  go_loopg [29] n (fun g iv wr => ∃ (k : Nat) (D' : SetD), iv = .int .i64 (k : Int) ∧ k ≤ n ∧ g = n - k ∧ Hid (ocD p q pages (.map []) L = ocD p q pages D' (L.drop k)) ∧ Hid (SetAt wr b (1001 * k) D') ∧ Hid (wr.heap[b + 1]? = some (.cells #[.int .i64 p, .int .i64 q, .int .u32 (pages : Int), .map (some b)] 48 (0, 0))) ∧ Hid (Same V wr))
  case atStart => exact ⟨0, .map [], rfl, by omega, rfl, rfl, m1, g1, HS1⟩
  case round =>
    clear m1 g1
    obtain ⟨k, D', rfl, hk, hg, HI, HS, HG, HF⟩ := hrel
    have o0 : wr.cell? ⟨b + 1, 0, none⟩ = some (.int .i64 p) := (cell_of_row _ _ _ _ _ _ HG.out).trans rfl
    have o1 : wr.cell? ⟨b + 1, 1, none⟩ = some (.int .i64 q) := (cell_of_row _ _ _ _ _ _ HG.out).trans rfl
    have o2 : wr.cell? ⟨b + 1, 2, none⟩ = some (.int .u32 (pages : Int)) := (cell_of_row _ _ _ _ _ _ HG.out).trans rfl
    have o3 : wr.cell? ⟨b + 1, 3, none⟩ = some (.map (some b)) := (cell_of_row _ _ _ _ _ _ HG.out).trans rfl
    by_cases hgo : k < n
    · obtain ⟨x, hx⟩ : ∃ x, L[k]? = some x := ⟨_, List.getElem?_eq_getElem (by rw [← HN.out]; exact hgo)⟩
      obtain ⟨h1, h2, h3⟩ := (HBR.out.same HF.out).cells k x hx
      obtain ⟨hpa, hlt⟩ := (HBR.out.same HF.out).place (by intro e; rw [e] at hx; simp at hx)
      subst hpa
      have hdrop : L.drop k = x :: L.drop (k + 1) := by
        have hl : k < L.length := by rw [← HN.out]; exact hgo
        have e : L[k] = x := by rw [List.getElem?_eq_getElem hl] at hx; exact Option.some.inj hx
        rw [List.drop_eq_getElem_cons hl, e]
      have HI2 : Hid (ocD p q pages (.map []) L = if (obD p q pages D' x.pg x.ns).1 = false then obD p q pages D' x.pg x.ns else ocD p q pages (obD p q pages D' x.pg x.ns).2 (L.drop (k + 1))) := by
        show _ = _
        rw [HI.out, hdrop]; rfl
      have hob : (obD p q pages D' x.pg x.ns).1 = true := by
        cases h : (obD p q pages D' x.pg x.ns).1 with
        | true => rfl
        | false =>
          have := HOK.out
          rw [HI2.out, if_pos h, h] at this
          cases this
      have HI3 : Hid (ocD p q pages (.map []) L = ocD p q pages (obD p q pages D' x.pg x.ns).2 (L.drop (k + 1))) := by show _ = _; rw [HI2.out, hob]; rfl
      obtain ⟨X, hX⟩ : ∃ X, X = wr.alloc (.cells #[.int .u32 (x.pg : Int), .slice x.na x.ns.length x.nc] 53) := ⟨_, rfl⟩
      have sX : Same wr X := by rw [hX]; exact (Fr.refl _ wr).alloc _
      have HX : Hid (Same V X) := HF.out.trans sX
      have HGX : Hid (X.heap[b + 1]? = some (.cells #[.int .i64 p, .int .i64 q, .int .u32 (pages : Int), .map (some b)] 48 (0, 0))) := (sX.block _ (lt_of_heap HG.out) (fun f => f)).trans HG.out
      have HCB : Hid (Calls Try.prog 13 #[.agg #[.int .i64 p, .int .i64 q, .int .u32 (pages : Int), .map (some b)], .agg #[.int .u32 (x.pg : Int), .slice x.na x.ns.length x.nc]] X fun e w' => e = .returned (.bool true) ∧ SetAt w' b (1001 * (k + 1)) (obD p q pages D' x.pg x.ns).2 ∧ Fr (fun k => k = b) X w') := by
        have h3' := h3.same sX
        have := fownBatch_calls (p := p) (q := q) (pages := pages) (cp := x.nc) X h3'.row (HS.out.fr sX (fun f => f)) (by have := h3.hl; omega) (by omega) h3.hns h3.hpg
        rw [hob] at this
        exact this.mono fun e w' ⟨e1, e2, e3⟩ => ⟨e1, e2.more (by have := h3.hl; omega), e3⟩
      have u0 : X.cell? ⟨b + 1, 0, none⟩ = some (.int .i64 p) := sX.keep o0
      have u1 : X.cell? ⟨b + 1, 1, none⟩ = some (.int .i64 q) := sX.keep o1
      have u2 : X.cell? ⟨b + 1, 2, none⟩ = some (.int .u32 (pages : Int)) := sX.keep o2
      have u3 : X.cell? ⟨b + 1, 3, none⟩ = some (.map (some b)) := sX.keep o3
      rw [hX] at u0 u1 u2 u3
      clear hx hdrop HI HI2 hob h3 sX
      go_wp2_with fail
      rw [← hX]
      clear hX u0 u1 u2 u3 o0 o1 o2 o3 h1 h2
      refine HCB.out.mono ?_
      rintro e W1 ⟨rfl, q1, f1⟩
      have HS2 : Hid (SetAt W1 b (1001 * (k + 1)) (obD p q pages D' x.pg x.ns).2) := q1
      have HG2 : Hid (W1.heap[b + 1]? = some (.cells #[.int .i64 p, .int .i64 q, .int .u32 (pages : Int), .map (some b)] 48 (0, 0))) := (f1.block _ (lt_of_heap HGX.out) (by omega)).trans HGX.out
      have HF2 : Hid (Same V W1) := Fr.trans HX.out f1 (fun kk hk e => by have := HVB.out; omega)
      clear q1 f1
      go_wp2_with fail
      go_roundg (n - (k + 1))
      case measure => omega
      case rel => exact ⟨k + 1, _, by go_num, by omega, rfl, HI3, HS2, HG2, HF2⟩
    · have hd : L.drop k = [] := List.drop_eq_nil_of_le (by rw [← HN.out]; omega)
      have hr : Hid (ocD p q pages (.map []) L = (true, D')) := by show _ = _; rw [HI.out, hd]; rfl
      have hkn : k = n := by omega
      subst hkn
      have hres := (HF.out.block _ (lt_of_heap HR0.out.2) (fun f => f)).trans HR0.out.2
      go_wp2_with (refine wpList_store_whole (by rfl) 48 _ _ (by rfl) (w.heap.size + 1) #[.int .i64 p, .int .i64 q, .int .u32 (pages : Int), .map (some b)] _ 48 (by rfl) (by rfl) hres rfl (by kernel_rfl) (by kernel_rfl) ?_; intro W7 r7 f7)
      go_wp2_with fail
      refine bodyPost_ret (results_row_tmp1 rfl _ _ _ _ _ _ _ rfl r7 Try.underlying48 rfl (by kernel_rfl)) rfl ?_
      exact ⟨b, rfl, by have := HVB.out; have := HWV.out; omega, by rw [hr.out]; exact HS.out.fr f7 (by have := HVB.out; have := lt_of_heap HR0.out.2; omega), Fr.trans (sx.trans HF.out) f7 (fun kk hk e => by omega)⟩
end Go.Proofs.Ytajbifblbmlffaa
