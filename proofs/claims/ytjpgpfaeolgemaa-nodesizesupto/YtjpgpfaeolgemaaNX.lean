/- NodeSizes. -/
import Derived.Test.YtjpgpfaeolgemaaNT
import Derived.Test.YtjpgpfaeolgemaaNR0
import Derived.Test.YtjpgpfaeolgemaaNP
namespace Go.Proofs.Ytjpgpfaeolgemaa
open Go.RowKit

theorem own_setG {w : World} {B g cap n i sz : Nat} {e : TypeId} {xs : List Value} (h : w.ownsRow B e sz (.slice (some ⟨g, 0, none⟩) n cap) n xs) (v : Value) :
    (w.setCell ⟨g, i, none⟩ v).ownsRow B e sz (.slice (some ⟨g, 0, none⟩) n cap) n (xs.set i v) := by
  obtain ⟨hl, hn | ⟨g2, c2, cur, hv, hb, hh, hnc, hcm, hcs, htk⟩⟩ := h
  · exact absurd hn.1 (by simp)
  · injection hv with e1 _ e3
    injection e1 with e1
    injection e1 with e1
    subst e1 e3
    refine ⟨by rw [List.length_set]; exact hl, Or.inr ⟨g, cap, cur.setIfInBounds i v, rfl, hb, heap_setCell_same w g i cur e v hh, hnc, hcm, by rw [Array.size_setIfInBounds]; exact hcs, ?_⟩⟩
    rw [Array.toList_setIfInBounds, List.take_set, htk]
theorem own_frozenG {w : World} {B g cap n i sz : Nat} {e : TypeId} {xs : List Value} (h : w.ownsRow B e sz (.slice (some ⟨g, 0, none⟩) n cap) n xs) : w.frozen? ⟨g, i, none⟩ = false := by
  obtain ⟨hl, hn | ⟨g2, c2, cur, hv, hb, hh, hnc, hcm, hcs, htk⟩⟩ := h
  · exact absurd hn.1 (by simp)
  · injection hv with e1 _ e3
    injection e1 with e1
    injection e1 with e1
    subst e1 e3
    exact frozen_of_row w g i _ _ hh
theorem own_someB {w : World} {base : Nat} {e : TypeId} {sz n cap : Nat} {ao : Option Addr} {xs : List Value} (h : w.ownsRow base e sz (.slice ao n cap) n xs) (hn : n ≠ 0) : ∃ g, ao = some ⟨g, 0, none⟩ := by
  obtain ⟨_, ⟨_, h2⟩ | ⟨g, c, cur, hv, _⟩⟩ := h
  · exact absurd h2 hn
  · injection hv with e1
    exact ⟨g, e1⟩
theorem NdAt.fr {W W' : World} {r : Nr} {N : Nd} {S : Nat → Prop} (h : NdAt W r N) (f : Fr S W W') (h1 : N.ps ≠ [] → ¬ S r.pb) (h2 : N.ss ≠ [] → ¬ S r.sb) (h3 : N.ks ≠ [] → ¬ S r.kb) : NdAt W' r N := by
  refine ⟨⟨fun e => ⟨(h.hp.place e).1, Nat.lt_of_lt_of_le (h.hp.place e).2 f.size⟩, fun j x hx => ?_⟩, ⟨fun e => ⟨(h.hs.place e).1, Nat.lt_of_lt_of_le (h.hs.place e).2 f.size⟩, fun j x hx => ?_⟩, ⟨fun e => ⟨(h.hk.place e).1, Nat.lt_of_lt_of_le (h.hk.place e).2 f.size⟩, fun j x hx i v hv => ?_⟩, h.ok, h.lp, h.ls, h.lk⟩
  · have hne : N.ps ≠ [] := by intro e; rw [e] at hx; simp at hx
    obtain ⟨c0, c1⟩ := h.hp.cells j x hx
    exact ⟨(f.cell (p := ⟨r.pb, _, none⟩) (h.hp.place hne).2 (h1 hne)).trans c0, (f.cell (p := ⟨r.pb, _, none⟩) (h.hp.place hne).2 (h1 hne)).trans c1⟩
  · have hne : N.ss ≠ [] := by intro e; rw [e] at hx; simp at hx
    exact (f.cell (p := ⟨r.sb, _, none⟩) (h.hs.place hne).2 (h2 hne)).trans (h.hs.cells j x hx)
  · have hne : N.ks ≠ [] := by intro e; rw [e] at hx; simp at hx
    exact (f.cell (p := ⟨r.kb, _, none⟩) (h.hk.place hne).2 (h3 hne)).trans (h.hk.cells j x hx i v hv)
theorem PRow.take {W : World} {pa : Option Addr} {pb po : Nat} {ps : List (ByteArray × ByteArray)} (h : PRow W pa pb po ps) (m : Nat) : PRow W pa pb po (ps.take m) := by
  refine ⟨fun e => h.place (by intro e2; rw [e2] at e; simp at e), fun j x hx => h.cells j x ?_⟩
  rw [List.getElem?_take] at hx
  split at hx
  · exact hx
  · cases hx
theorem kidL_set (X : List Kid) (k : Nat) (x : Kid) (v : Nat) (hx : X[k]? = some x) (h : ∀ x ∈ X, KidOk x) : (kcellsL X).set (k * 33) (.int .u32 v) = kcellsL (X.set k ⟨v, x.d⟩) := by
  induction X generalizing k with
  | nil => simp at hx
  | cons y X ih =>
    have hy := kcells_length (h y (by simp)).d
    cases k with
    | zero =>
      obtain rfl : y = x := by simpa using hx
      simp [kcellsL, kcells]
    | succ k =>
      have h2 := ih k (by simpa using hx) (fun z hz => h z (by simp [hz]))
      have e : kcellsL (y :: X) = kcells y ++ kcellsL X := by simp [kcellsL]
      have e2 : kcellsL ((y :: X).set (k + 1) ⟨v, x.d⟩) = kcells y ++ kcellsL (X.set k ⟨v, x.d⟩) := by simp [kcellsL]
      rw [e, e2, ← h2, List.set_append_right _ _ (by omega), hy, show (k + 1) * 33 - 33 = k * 33 from by omega]
theorem bare_set (X : List Kid) (k : Nat) (x : Kid) (v : Nat) (hx : X[k]? = some x) : (X.set k ⟨v, x.d⟩).map bareK = X.map bareK := by
  rw [List.map_set]
  apply List.ext_getElem?
  intro i
  rw [List.getElem?_set]
  split
  · next h => subst h; split
              · rw [List.getElem?_map, hx]; rfl
              · rename_i h2
                rw [List.getElem?_eq_none (by simpa using h2)]
  · rfl
theorem wrapU32 (n : Int) : ∃ v : Nat, n % 4294967296 = (v : Int) ∧ v < 4294967296 := by
  exact ⟨(n % 4294967296).toNat, by omega, by omega⟩
set_option maxRecDepth 100000 in
set_option maxHeartbeats 1000000 in
theorem sizes_bad {p q : Int} {r : Nr} {N : Nd} {pg E : Int} (w : World)
    (HZ : Hid (∀ W, Same w W → Calls Try.prog 17 #[frameV p q, ndV r N] W fun e w' => e = .returned (.int .i64 0) ∧ Same W w'))
    (HC : Hid (∀ W, Same w W → Calls Try.prog 20 #[frameV p q, ndV r N] W fun e w' => e = .returned (.int .i64 E) ∧ Same W w')) (hE : ¬ E = 0) :
    Calls Try.prog 6 #[frameV p q, ndV r N, .int .u32 pg] w fun e w' => e = .returned (.bool true) ∧ Same w w' := by
  have HLV : Hid (∀ W, Calls Try.prog 13 #[] W fun e w' => e = .returned (.bool true) ∧ Same W w') := lives_calls
  obtain ⟨V, hV⟩ : ∃ V, V = (w.alloc (.cells #[.int .i64 p, .int .i64 q] 23)).alloc (.cells #[.slice r.pa N.ps.length r.cp, .slice r.sa N.ss.length r.cs, .slice r.ka N.ks.length r.ck] 30) := ⟨_, rfl⟩
  have t1 : Same w V := by rw [hV]; exact ((Fr.refl _ w).alloc _).alloc _
  have a0 : V.cell? ⟨w.heap.size, 0, none⟩ = some (.int .i64 p) := by rw [hV]; simp
  have a1 : V.cell? ⟨w.heap.size, 1, none⟩ = some (.int .i64 q) := by rw [hV]; simp
  have n0 : V.cell? ⟨w.heap.size + 1, 0, none⟩ = some (.slice r.pa N.ps.length r.cp) := by rw [hV]; simp
  have n1 : V.cell? ⟨w.heap.size + 1, 1, none⟩ = some (.slice r.sa N.ss.length r.cs) := by rw [hV]; simp
  have n2 : V.cell? ⟨w.heap.size + 1, 2, none⟩ = some (.slice r.ka N.ks.length r.ck) := by rw [hV]; simp
  go_enter Try.func6, Try.ntmps6
  go_wp2_with fail
  rw [← hV]
  clear hV
  refine (HLV.out _).mono ?_
  rintro e W1 ⟨rfl, s1⟩
  have t1 := t1.trans s1
  have a0 := s1.keep a0
  have a1 := s1.keep a1
  have n0 := s1.keep n0
  have n1 := s1.keep n1
  have n2 := s1.keep n2
  clear s1
  go_wp2_with fail
  refine (HZ.out _ t1).mono ?_
  rintro e W1 ⟨rfl, s1⟩
  have t1 := t1.trans s1
  have a0 := s1.keep a0
  have a1 := s1.keep a1
  have n0 := s1.keep n0
  have n1 := s1.keep n1
  have n2 := s1.keep n2
  clear s1
  go_wp2_with fail
  refine (HC.out _ t1).mono ?_
  rintro e W1 ⟨rfl, s1⟩
  have t1 := t1.trans s1
  have a0 := s1.keep a0
  have a1 := s1.keep a1
  have n0 := s1.keep n0
  have n1 := s1.keep n1
  have n2 := s1.keep n2
  clear s1
  go_wp2_with fail
  go_ret
  exact ⟨rfl, t1⟩

set_option maxRecDepth 100000 in
set_option maxHeartbeats 1000000 in
theorem sizes_good {p q : Int} {r : Nr} {N : Nd} {pg SZ : Int} {a b ab c m1 m2 d e m3 MO : Int} (w : World)
    (hw1 : RowKit.wrap64 (p.tdiv 16) = a) (hw2 : RowKit.wrap64 (p.tdiv 8) = b) (hw3 : RowKit.wrap64 (a + b) = ab) (hw4 : RowKit.wrap64 (ab + 4) = c) (hw5 : RowKit.wrap64 ((N.ps.length : Int) * c) = m1) (hw6 : RowKit.wrap64 (11 + m1) = m2) (hw7 : RowKit.wrap64 (a + 6) = d) (hw8 : RowKit.wrap64 (d + q) = e) (hw9 : RowKit.wrap64 ((N.ks.length : Int) * e) = m3) (hw10 : RowKit.wrap64 (m2 + m3) = MO)
    (hs1 : ¬ SZ < 2) (hs2 : ¬ MO < SZ) (lk : N.ks.length ≤ 1048576) (lp : N.ps.length ≤ 1048576) (ls : N.ss.length ≤ 1048576)
    (HN : Hid (NdAt w r N)) (HFO : Hid (∀ X, (∀ x ∈ X, KidOk x) → X.map bareK = N.ks.map bareK → ∀ t, (formN t q ⟨N.ps, N.ss, X⟩).length ≤ 50000000000))
    (HZ2 : Hid (∀ W r' X, X.map bareK = N.ks.map bareK → NdOk W r' q ⟨N.ps, N.ss, X⟩ → Calls Try.prog 17 #[frameV p q, ndV r' ⟨N.ps, N.ss, X⟩] W fun e w' => e = .returned (.int .i64 SZ) ∧ Same W w'))
    (HZ : Hid (∀ W, Same w W → Calls Try.prog 17 #[frameV p q, ndV r N] W fun e w' => e = .returned (.int .i64 SZ) ∧ Same W w'))
    (HC : Hid (∀ W, Same w W → Calls Try.prog 20 #[frameV p q, ndV r N] W fun e w' => e = .returned (.int .i64 0) ∧ Same W w'))
    (HLAST : Hid (∀ (m : Nat) (x : ByteArray × ByteArray), N.ps.length = m + 1 → N.ps.length < 128 → N.ps[m]? = some x → ∃ SZ3 dd L : Int, (∀ W r' X, X.map bareK = N.ks.map bareK → NdOk W r' q ⟨N.ps.take m, N.ss, X⟩ → Calls Try.prog 17 #[frameV p q, ndV r' ⟨N.ps.take m, N.ss, X⟩] W fun e w' => e = .returned (.int .i64 SZ3) ∧ Same W w') ∧ (∀ X, (∀ x ∈ X, KidOk x) → X.map bareK = N.ks.map bareK → ∀ t, (formN t q ⟨N.ps.take m, N.ss, X⟩).length ≤ 50000000000) ∧ RowKit.wrap64 (SZ - SZ3) = dd ∧ RowKit.wrap64 ((x.1.size : Int) + (x.2.size : Int)) = L ∧ RowKit.wrap64 (L + 2) = L + 2 ∧ RowKit.wrap64 (L + 4) = L + 4 ∧ ¬ dd < L + 2 ∧ ¬ L + 4 < dd))
    (HKO : Hid (∀ x ∈ N.ks, KidOk x)) (HCP : Hid (∀ W, Same w W → Calls Try.prog 21 #[ndV r N] W fun e w' => ∃ r', e = .returned (ndV r' N) ∧ Copied W w' r' N ∧ Same W w')) :
    Calls Try.prog 6 #[frameV p q, ndV r N, .int .u32 pg] w fun e w' => e = .returned (.bool true) ∧ Same w w' := by
  have HLV : Hid (∀ W, Calls Try.prog 13 #[] W fun e w' => e = .returned (.bool true) ∧ Same W w') := lives_calls
  obtain ⟨V, hV⟩ : ∃ V, V = (w.alloc (.cells #[.int .i64 p, .int .i64 q] 23)).alloc (.cells #[.slice r.pa N.ps.length r.cp, .slice r.sa N.ss.length r.cs, .slice r.ka N.ks.length r.ck] 30) := ⟨_, rfl⟩
  have t1 : Same w V := by rw [hV]; exact ((Fr.refl _ w).alloc _).alloc _
  have a0 : V.cell? ⟨w.heap.size, 0, none⟩ = some (.int .i64 p) := by rw [hV]; simp
  have a1 : V.cell? ⟨w.heap.size, 1, none⟩ = some (.int .i64 q) := by rw [hV]; simp
  have n0 : V.cell? ⟨w.heap.size + 1, 0, none⟩ = some (.slice r.pa N.ps.length r.cp) := by rw [hV]; simp
  have n1 : V.cell? ⟨w.heap.size + 1, 1, none⟩ = some (.slice r.sa N.ss.length r.cs) := by rw [hV]; simp
  have n2 : V.cell? ⟨w.heap.size + 1, 2, none⟩ = some (.slice r.ka N.ks.length r.ck) := by rw [hV]; simp
  go_enter Try.func6, Try.ntmps6
  go_wp2_with fail
  rw [← hV]
  clear hV
  refine (HLV.out _).mono ?_
  rintro e W1 ⟨rfl, s1⟩
  have t1 := t1.trans s1
  have a0 := s1.keep a0
  have a1 := s1.keep a1
  have n0 := s1.keep n0
  have n1 := s1.keep n1
  have n2 := s1.keep n2
  clear s1
  go_wp2_with fail
  refine (HZ.out _ t1).mono ?_
  rintro e W1 ⟨rfl, s1⟩
  have t1 := t1.trans s1
  have a0 := s1.keep a0
  have a1 := s1.keep a1
  have n0 := s1.keep n0
  have n1 := s1.keep n1
  have n2 := s1.keep n2
  clear s1
  go_wp2_with fail
  refine (HC.out _ t1).mono ?_
  rintro e W1 ⟨rfl, s1⟩
  have t1 := t1.trans s1
  have a0 := s1.keep a0
  have a1 := s1.keep a1
  have n0 := s1.keep n0
  have n1 := s1.keep n1
  have n2 := s1.keep n2
  clear s1
  go_wp2_with fail
  have HW1 : Hid (w.heap.size + 1 < W1.heap.size) := World.block_lt_of_cell? W1 ⟨w.heap.size + 1, 0, none⟩ n0
  refine (HCP.out _ t1).mono ?_
  rintro e W2 ⟨⟨pa, pb, po, cp, sa, sb, so, cs, ka, kb, ko, ck⟩, rfl, cpy, s1⟩
  have HS12 : Hid (W1.heap.size ≤ W2.heap.size) := s1.size
  have t1 := t1.trans s1
  have a0 := s1.keep a0
  have a1 := s1.keep a1
  have n0 := s1.keep n0
  have n1 := s1.keep n1
  have n2 := s1.keep n2
  clear s1
  rw [show ndV (⟨pa, pb, po, cp, sa, sb, so, cs, ka, kb, ko, ck⟩ : Nr) N = Value.agg #[.slice pa N.ps.length cp, .slice sa N.ss.length cs, .slice ka N.ks.length ck] from rfl]
  go_wp2_with fail
  obtain ⟨V2, hV2⟩ : ∃ V2, V2 = W2.alloc (.cells #[.slice pa N.ps.length cp, .slice sa N.ss.length cs, .slice ka N.ks.length ck] 30) := ⟨_, rfl⟩
  rw [← hV2]
  have s1 : Same W2 V2 := by rw [hV2]; exact (Fr.refl _ W2).alloc _
  have t1 := t1.trans s1
  have a0 := s1.keep a0
  have a1 := s1.keep a1
  have n0 := s1.keep n0
  have n1 := s1.keep n1
  have n2 := s1.keep n2
  have b0 : V2.cell? ⟨W2.heap.size, 0, none⟩ = some (.slice pa N.ps.length cp) := by rw [hV2]; simp
  have b1 : V2.cell? ⟨W2.heap.size, 1, none⟩ = some (.slice sa N.ss.length cs) := by rw [hV2]; simp
  have b2 : V2.cell? ⟨W2.heap.size, 2, none⟩ = some (.slice ka N.ks.length ck) := by rw [hV2]; simp
  have op := own_frameB cpy.op s1 (fun _ _ f => f)
  have os := own_frameB cpy.os s1 (fun _ _ f => f)
  have ok := own_frameB cpy.ok s1 (fun _ _ f => f)
  have pk := cpy.pk
  have sk := cpy.sk
  simp only at op os ok pk sk
  have hbb : ∀ a, ka = some a → W1.heap.size ≤ a.block ∧ a.block < W2.heap.size := fun a ha => by
    have := cpy.ok
    simp only at this
    rw [ha] at this
    exact own_ge this
  have hw2 : w.heap.size + 1 < W1.heap.size := HW1.out
  have HZW : Hid (W1.heap.size ≤ W2.heap.size) := HS12.out
  have HF : Hid (∀ W, Fr (fun b => ∃ a, ka = some a ∧ b = a.block) V2 W → W.cell? ⟨w.heap.size, 0, none⟩ = some (.int .i64 p) ∧ W.cell? ⟨w.heap.size, 1, none⟩ = some (.int .i64 q) ∧ W.cell? ⟨w.heap.size + 1, 0, none⟩ = some (.slice r.pa N.ps.length r.cp) ∧ W.cell? ⟨w.heap.size + 1, 1, none⟩ = some (.slice r.sa N.ss.length r.cs) ∧ W.cell? ⟨w.heap.size + 1, 2, none⟩ = some (.slice r.ka N.ks.length r.ck) ∧ W.cell? ⟨W2.heap.size, 0, none⟩ = some (.slice pa N.ps.length cp) ∧ W.cell? ⟨W2.heap.size, 1, none⟩ = some (.slice sa N.ss.length cs) ∧ W.cell? ⟨W2.heap.size, 2, none⟩ = some (.slice ka N.ks.length ck)) := fun W hf => by
    have hn1 : ¬ (∃ a, ka = some a ∧ w.heap.size = a.block) := fun ⟨a, ha, e⟩ => by have := hbb a ha; omega
    have hn2 : ¬ (∃ a, ka = some a ∧ w.heap.size + 1 = a.block) := fun ⟨a, ha, e⟩ => by have := hbb a ha; omega
    have hn3 : ¬ (∃ a, ka = some a ∧ W2.heap.size = a.block) := fun ⟨a, ha, e⟩ => by have := hbb a ha; omega
    exact ⟨(hf.cell (p := ⟨w.heap.size, 0, none⟩) (World.block_lt_of_cell? _ _ a0) hn1).trans a0, (hf.cell (p := ⟨w.heap.size, 1, none⟩) (World.block_lt_of_cell? _ _ a1) hn1).trans a1, (hf.cell (p := ⟨w.heap.size + 1, 0, none⟩) (World.block_lt_of_cell? _ _ n0) hn2).trans n0, (hf.cell (p := ⟨w.heap.size + 1, 1, none⟩) (World.block_lt_of_cell? _ _ n1) hn2).trans n1, (hf.cell (p := ⟨w.heap.size + 1, 2, none⟩) (World.block_lt_of_cell? _ _ n2) hn2).trans n2, (hf.cell (p := ⟨W2.heap.size, 0, none⟩) (World.block_lt_of_cell? _ _ b0) hn3).trans b0, (hf.cell (p := ⟨W2.heap.size, 1, none⟩) (World.block_lt_of_cell? _ _ b1) hn3).trans b1, (hf.cell (p := ⟨W2.heap.size, 2, none⟩) (World.block_lt_of_cell? _ _ b2) hn3).trans b2⟩
  have HROW : Hid (∀ W, Fr (fun b => ∃ a, ka = some a ∧ b = a.block) V2 W → W.heap[W2.heap.size]? = some (.cells #[.slice pa N.ps.length cp, .slice sa N.ss.length cs, .slice ka N.ks.length ck] 30 (0, 0))) := fun W hf => by
    rw [hf.block W2.heap.size (by rw [hV2]; simp) (fun ⟨a, ha, e⟩ => by have := hbb a ha; omega), hV2]; exact heap_alloc_new W2 _
  have HB1 : Hid (∀ a, pa = some a → a.block < W2.heap.size) := fun a ha => by
    have := cpy.op
    simp only at this
    rw [ha] at this
    exact (own_ge this).2
  have HB2 : Hid (∀ a, sa = some a → a.block < W2.heap.size) := fun a ha => by
    have := cpy.os
    simp only at this
    rw [ha] at this
    exact (own_ge this).2
  clear s1 hV2 cpy a0 a1 n0 n1 n2 b0 b1 b2
  have HOP : Hid (V2.ownsRow W1.heap.size 48 2 (.slice pa N.ps.length cp) N.ps.length (pcells N.ps)) := op
  have HOS : Hid (V2.ownsRow W1.heap.size 9 1 (.slice sa N.ss.length cs) N.ss.length (scells N.ss)) := os
  have HPK : Hid (∀ a b, pa = some a → ka = some b → a.block ≠ b.block) := pk
  have HSK : Hid (∀ a b, sa = some a → ka = some b → a.block ≠ b.block) := sk
  have HBB : Hid (∀ a, ka = some a → W1.heap.size ≤ a.block ∧ a.block < W2.heap.size) := hbb
  clear op os pk sk hbb
  go_loopg [9] N.ks.length (fun g iv wr => ∃ (k : Nat) (X : List Kid), iv = .int .i64 (k : Int) ∧ k ≤ N.ks.length ∧ g = N.ks.length - k ∧ Hid (Fr (fun b => ∃ a, ka = some a ∧ b = a.block) V2 wr) ∧ Hid (X.map bareK = N.ks.map bareK) ∧ Hid (∀ x ∈ X, KidOk x) ∧ Hid (wr.ownsRow W1.heap.size 42 33 (.slice ka N.ks.length ck) N.ks.length (kcellsL X)))
  case atStart => exact ⟨0, N.ks, rfl, by omega, rfl, Fr.refl _ V2, rfl, HKO.out, ok⟩
  case round =>
    obtain ⟨k, X, rfl, hk, hg, HFr, HX, HXO, HOK⟩ := hrel
    obtain ⟨a0, a1, n0, n1, n2, b0, b1, b2⟩ := HF.out _ HFr.out
    have hXl : X.length = N.ks.length := by have := congrArg List.length HX.out; simpa using this
    by_cases hgo : k < N.ks.length
    · obtain ⟨gb, hka⟩ := own_someB HOK.out (by omega)
      subst hka
      obtain ⟨x, hx⟩ : ∃ x, X[k]? = some x := ⟨_, List.getElem?_eq_getElem (by omega)⟩
      obtain ⟨g', hkr⟩ := own_krow HXO.out (own_base HOK.out (Nat.zero_le _)) hXl.symm
      have hg' : gb = g' := by
        have := (hkr.place (by intro e; rw [e] at hx; simp at hx)).1
        injection this with this
        injection this
      subst hg'
      have c0 : wr.cell? ⟨gb, k * 33, none⟩ = some (.int .u32 x.page) := by
        have := hkr.cells k x hx 0 _ rfl
        simpa using this
      have f0 : wr.frozen? ⟨gb, k * 33, none⟩ = false := own_frozenG HOK.out
      obtain ⟨v, hv, hvl⟩ := wrapU32 (pg + (k : Int))
      have HOK2 : Hid ((wr.setCell ⟨gb, k * 33, none⟩ (.int .u32 v)).ownsRow W1.heap.size 42 33 (.slice (some ⟨gb, 0, none⟩) N.ks.length ck) N.ks.length (kcellsL (X.set k ⟨v, x.d⟩))) := by
        have := own_setG (i := k * 33) HOK.out (.int .u32 v)
        rw [kidL_set X k x v hx HXO.out] at this
        exact this
      have HX2 : Hid ((X.set k ⟨v, x.d⟩).map bareK = N.ks.map bareK) := (bare_set X k x v hx).trans HX.out
      have HXO2 : Hid (∀ y ∈ X.set k ⟨v, x.d⟩, KidOk y) := fun y hy => by
        rcases List.mem_or_eq_of_mem_set hy with h | rfl
        · exact HXO.out y h
        · exact ⟨hvl, (HXO.out x (List.mem_of_getElem? hx)).d⟩
      have HFr2 : Hid (Fr (fun b => ∃ a, (some ⟨gb, 0, none⟩ : Option Addr) = some a ∧ b = a.block) V2 (wr.setCell ⟨gb, k * 33, none⟩ (.int .u32 v))) := Fr.setCell (p := ⟨gb, k * 33, none⟩) HFr.out (fun _ => ⟨_, rfl, rfl⟩) _
      clear HX HXO HOK hkr hx HFr
      go_wp2_with fail
      go_roundg (N.ks.length - (k + 1))
      case measure => omega
      case rel => exact ⟨k + 1, _, by go_num, by omega, rfl, HFr2, HX2, HXO2, HOK2⟩
    · obtain rfl : k = N.ks.length := by omega
      go_wp2_with fail
      obtain ⟨g1, hp1⟩ := own_prow (own_base (own_frameB HOP.out HFr.out (fun kk hk2 hS => by obtain ⟨a, ha, e⟩ := hS; cases pa with | none => cases hk2 | some z => have := HPK.out z a rfl ha; simp [Value.ownBlock] at hk2; omega)) (Nat.zero_le _)) rfl
      obtain ⟨g2, hp2⟩ := own_trow (own_base (own_frameB HOS.out HFr.out (fun kk hk2 hS => by obtain ⟨a, ha, e⟩ := hS; cases sa with | none => cases hk2 | some z => have := HSK.out z a rfl ha; simp [Value.ownBlock] at hk2; omega)) (Nat.zero_le _)) rfl
      obtain ⟨g3, hp3⟩ := own_krow HXO.out (own_base HOK.out (Nat.zero_le _)) hXl.symm
      have hcs := own_cap (own_base HOS.out (Nat.zero_le _))
      have hml : maxLen = 9223372036854775807 := rfl
      have nok : NdOk wr ⟨pa, g1, 0, cp, sa, g2, 0, cs, ka, g3, 0, ck⟩ q ⟨N.ps, N.ss, X⟩ := ⟨⟨hp1, hp2, hp3, HXO.out, by show N.ps.length ≤ _; omega, by show N.ss.length ≤ _; omega, by show X.length ≤ _; omega⟩, ⟨hcs.1, by show cs ≤ _; omega⟩, HFO.out X HXO.out HX.out _, HFO.out X HXO.out HX.out _⟩
      have HZ3 := HZ2.out wr _ X HX.out nok
      rw [show ndV (⟨pa, g1, 0, cp, sa, g2, 0, cs, ka, g3, 0, ck⟩ : Nr) ⟨N.ps, N.ss, X⟩ = Value.agg #[.slice pa N.ps.length cp, .slice sa N.ss.length cs, .slice ka X.length ck] from rfl, hXl] at HZ3
      refine HZ3.mono ?_
      rintro e W5 ⟨rfl, s5⟩
      have a0 := s5.keep a0
      have a1 := s5.keep a1
      have n0 := s5.keep n0
      have n1 := s5.keep n1
      have n2 := s5.keep n2
      have b0 := s5.keep b0
      have b1 := s5.keep b1
      have b2 := s5.keep b2
      clear HZ3
      have hwlt : w.heap.size ≤ W1.heap.size := by have := HW1.out; omega
      have tE : Same w wr := Fr.trans t1 HFr.out (fun i hi ⟨a, ha, e⟩ => by have := HBB.out a ha; omega)
      have tF : Same w W5 := tE.trans s5
      by_cases c1 : N.ps.length = 0
      · have c1' : ¬ 0 < N.ps.length := by omega
        go_wp2_with fail
        go_ret
        exact ⟨rfl, tF⟩
      · by_cases c2 : N.ps.length < 128
        · have c1' : 0 < N.ps.length := by omega
          obtain ⟨m, hm⟩ : ∃ m, N.ps.length = m + 1 := ⟨N.ps.length - 1, by omega⟩
          obtain ⟨x, hx⟩ : ∃ x, N.ps[m]? = some x := ⟨_, List.getElem?_eq_getElem (by omega)⟩
          obtain ⟨SZ3, dd, L, hZ4, hF4, g1', g2', g3', g4', g5', g6'⟩ := HLAST.out m x hm c2 hx
          have hne : N.ps ≠ [] := by intro e; rw [e] at hx; simp at hx
          obtain ⟨y0, y1⟩ := (HN.out.same tF).hp.cells m x hx
          have hrp := ((HN.out.same tF).hp.place hne).1
          rw [hrp] at n0
          obtain ⟨hpa, _⟩ := hp1.place hne
          subst hpa
          have r0 : W5.heap[W2.heap.size]? = some (.cells #[.slice (some ⟨g1, 0, none⟩) N.ps.length cp, .slice sa N.ss.length cs, .slice ka N.ks.length ck] 30 (0, 0)) := by
            have := HROW.out _ HFr.out
            exact (s5.block W2.heap.size (lt_of_heap this) (fun e => e)).trans this
          obtain ⟨x0, x1⟩ := x
          simp only at y0 y1 g2'
          have rx : ∀ o, (W5.alloc o).heap[W2.heap.size]? = some (.cells #[.slice (some ⟨g1, 0, none⟩) N.ps.length cp, .slice sa N.ss.length cs, .slice ka N.ks.length ck] 30 (0, 0)) := fun o => by rw [Below.heap_alloc _ _ _ (lt_of_heap r0)]; exact r0
          have fz : ∀ o, (W5.alloc o).frozen? ⟨W2.heap.size, 0, none⟩ = false := fun o => frozen_of_row _ W2.heap.size 0 _ _ (rx o)
          have hm1 : ((N.ps.length : Nat) : Int) - 1 = (m : Int) := by omega
          have hm2 : (m : Int) < ((N.ps.length : Nat) : Int) := by omega
          have hcp := own_cap (own_base HOP.out (Nat.zero_le _))
          have hcp2 : (m : Int) ≤ (cp : Int) := by omega
          have a0x := fun o => keepA' a0 o
          have a1x := fun o => keepA' a1 o
          have b0x := fun o => keepA' b0 o
          have b1x := fun o => keepA' b1 o
          have b2x := fun o => keepA' b2 o
          obtain ⟨W6, hW6⟩ : ∃ W6, W6 = (W5.alloc (.cells #[.string x0, .string x1] 48)).setCell ⟨W2.heap.size, 0, none⟩ (.slice (some ⟨g1, 0, none⟩) m cp) := ⟨_, rfl⟩
          have f6 : Fr (fun b => b = W2.heap.size) W5 W6 := by rw [hW6]; exact Fr.setCell (S := fun b => b = W2.heap.size) (p := ⟨W2.heap.size, 0, none⟩) ((Fr.refl _ W5).alloc _) (fun _ => rfl) _
          have t6 : Same w W6 := Fr.trans tF f6 (fun i hi e => by have := HW1.out; have hz := HZW.out; omega)
          have r6 : W6.heap[W2.heap.size]? = some (.cells #[.slice (some ⟨g1, 0, none⟩) m cp, .slice sa N.ss.length cs, .slice ka N.ks.length ck] 30 (0, 0)) := by
            rw [hW6]; exact heap_setCell_same _ W2.heap.size 0 _ _ _ (rx _)
          have A0 : W6.cell? ⟨w.heap.size, 0, none⟩ = some (.int .i64 p) := far_cell a0 f6 (by have := HW1.out; have hz := HZW.out; show w.heap.size ≠ _; omega)
          have A1 : W6.cell? ⟨w.heap.size, 1, none⟩ = some (.int .i64 q) := far_cell a1 f6 (by have := HW1.out; have hz := HZW.out; show w.heap.size ≠ _; omega)
          have B0 : W6.cell? ⟨W2.heap.size, 0, none⟩ = some (.slice (some ⟨g1, 0, none⟩) m cp) := by rw [cell_of_row _ _ _ _ _ _ r6]; rfl
          have B1 : W6.cell? ⟨W2.heap.size, 1, none⟩ = some (.slice sa N.ss.length cs) := by rw [cell_of_row _ _ _ _ _ _ r6]; rfl
          have B2 : W6.cell? ⟨W2.heap.size, 2, none⟩ = some (.slice ka N.ks.length ck) := by rw [cell_of_row _ _ _ _ _ _ r6]; rfl
          have LK : W6.cell? ⟨W5.heap.size, 0, none⟩ = some (.string x0) := by
            have e : W6.heap[W5.heap.size]? = some (.cells #[.string x0, .string x1] 48 (0, 0)) := by
              rw [hW6, Below.heap_setCell _ _ _ _ (by show W5.heap.size ≠ W2.heap.size; have := lt_of_heap r0; omega)]; exact heap_alloc_new W5 _
            rw [cell_of_row _ _ _ _ _ _ e]; rfl
          have LV : W6.cell? ⟨W5.heap.size, 1, none⟩ = some (.string x1) := by
            have e : W6.heap[W5.heap.size]? = some (.cells #[.string x0, .string x1] 48 (0, 0)) := by
              rw [hW6, Below.heap_setCell _ _ _ _ (by show W5.heap.size ≠ W2.heap.size; have := lt_of_heap r0; omega)]; exact heap_alloc_new W5 _
            rw [cell_of_row _ _ _ _ _ _ e]; rfl
          have nok6 : NdOk W6 ⟨some ⟨g1, 0, none⟩, g1, 0, cp, sa, g2, 0, cs, ka, g3, 0, ck⟩ q ⟨N.ps.take m, N.ss, X⟩ := by
            have n5 : NdAt W6 ⟨some ⟨g1, 0, none⟩, g1, 0, cp, sa, g2, 0, cs, ka, g3, 0, ck⟩ ⟨N.ps, N.ss, X⟩ := (nok.same s5).at_.fr f6 (fun _ => by have := HB1.out _ rfl; show ¬ g1 = _; simp only at this; omega) (fun e => by
                obtain ⟨h1, _⟩ := hp2.place e
                have := HB2.out _ h1; show ¬ g2 = _; simp only at this; omega) (fun e => by
                obtain ⟨h1, _⟩ := hp3.place e
                have := HBB.out _ h1; show ¬ g3 = _; simp only at this; omega)
            exact ⟨⟨n5.hp.take m, n5.hs, n5.hk, n5.ok, by show (N.ps.take m).length ≤ _; rw [List.length_take]; omega, n5.ls, n5.lk⟩, ⟨nok.cap.cs, nok.cap.cm⟩, hF4 X HXO.out HX.out _, hF4 X HXO.out HX.out _⟩
          have HZ5 : Hid (Calls Try.prog 17 #[frameV p q, .agg #[.slice (some ⟨g1, 0, none⟩) m cp, .slice sa N.ss.length cs, .slice ka N.ks.length ck]] W6 fun e w' => e = .returned (.int .i64 SZ3) ∧ Same W6 w') := by
            have := hZ4 W6 _ X HX.out nok6
            rw [show ndV (⟨some ⟨g1, 0, none⟩, g1, 0, cp, sa, g2, 0, cs, ka, g3, 0, ck⟩ : Nr) ⟨N.ps.take m, N.ss, X⟩ = Value.agg #[.slice (some ⟨g1, 0, none⟩) (N.ps.take m).length cp, .slice sa N.ss.length cs, .slice ka X.length ck] from rfl, hXl, List.length_take, hm, Nat.min_eq_left (by omega)] at this
            exact this
          have HW6 : Hid (W6 = (W5.alloc (.cells #[.string x0, .string x1] 48)).setCell ⟨W2.heap.size, 0, none⟩ (.slice (some ⟨g1, 0, none⟩) m cp)) := hW6
          have HLK : Hid (W6.cell? ⟨W5.heap.size, 0, none⟩ = some (.string x0) ∧ W6.cell? ⟨W5.heap.size, 1, none⟩ = some (.string x1)) := ⟨LK, LV⟩
          rw [hW6] at A0 A1 B0 B1 B2
          clear hx r0 rx nok nok6 hZ4 hF4 LK LV hW6 hp1 hp2 hp3
          go_wp2_with fail
          rw [← HW6.out]
          refine HZ5.out.mono ?_
          rintro e W8 ⟨rfl, s8⟩
          have LK := s8.keep HLK.out.1
          have LV := s8.keep HLK.out.2
          clear A0 A1 B0 B1 B2
          go_wp2_with fail
          go_ret
          exact ⟨rfl, t6.trans s8⟩
        · go_wp2_with fail
          go_ret
          exact ⟨rfl, tF⟩
end Go.Proofs.Ytjpgpfaeolgemaa
