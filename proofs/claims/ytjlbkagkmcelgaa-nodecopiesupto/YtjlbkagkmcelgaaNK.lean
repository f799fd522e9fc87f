/- A node read: node. -/
import Derived.Test.YtjlbkagkmcelgaaNJ
namespace Go.Proofs.Ytjlbkagkmcelgaa
open Go.RowKit

/-- The kind's byte: (kind, place, fault). -/
def rKind (s : ByteArray) : Nat × Nat × Nat := (beN (rRaw s 0 0 1).1.data.toList, (rRaw s 0 0 1).2)
theorem kind_calls {w : World} {b : Nat} {s : ByteArray} (h : RdAt w b s 0 0) :
    Calls Try.prog 71 #[.pointer (some ⟨b, 0, none⟩)] w fun e w' => e = .returned (.int .u8 ((rKind s).1 : Int)) ∧ RdAt w' b s (rKind s).2.1 (rKind s).2.2 ∧ RdStep b w w' := by
  have hl := beN_lt (rRaw s 0 0 1).1.data.toList
  have hz : (rRaw s 0 0 1).1.size ≤ 1 := rRaw_size s 0 0 1
  have hp : 256 ^ (rRaw s 0 0 1).1.data.toList.length ≤ 256 ^ 1 := Nat.pow_le_pow_right (by decide) (by rw [bytes_length]; exact hz)
  have HT0 := take_u8 h
  have e : IntKind.u8.wrap ((beN (rRaw s 0 0 1).1.data.toList : Nat) : Int) = ((rKind s).1 : Int) := by
    rw [IntKind.wrap_u8]; show _ = ((beN (rRaw s 0 0 1).1.data.toList : Nat) : Int); omega
  rw [e] at HT0
  exact HT0
/-- A Reader at b and the node under way at nb, both made since V. -/
structure NS (V W : World) (b : Nat) (s : ByteArray) (p c nb : Nat) : Prop where
  rd : RdAt W b s p c
  nf : W.heap[nb]? = some (.cells #[.slice none 0 0, .slice none 0 0, .slice none 0 0] 26 (0, 0))
  base : Same V W
  ne : V.heap.size ≤ b ∧ V.heap.size ≤ nb ∧ b ≠ nb
theorem NS.same {V W W' : World} {b : Nat} {s : ByteArray} {p c nb : Nat} (h : NS V W b s p c nb) (k : Same W W') : NS V W' b s p c nb :=
  ⟨h.rd.same k, (k.block nb (lt_of_heap h.nf) (fun e => e)).trans h.nf, h.base.trans k, h.ne⟩
theorem NS.rstep {V W W' : World} {b : Nat} {s : ByteArray} {p c p' c' nb : Nat} (h : NS V W b s p c nb) (hr : RdAt W' b s p' c') (k : RdStep b W W') : NS V W' b s p' c' nb :=
  ⟨hr, (k.block nb (lt_of_heap h.nf) (fun e => h.ne.2.2 e.symm)).trans h.nf, Fr.trans h.base k (fun i hi e => by have := h.ne.1; omega), h.ne⟩
theorem NS.cells {V W : World} {b : Nat} {s : ByteArray} {p c nb : Nat} (h : NS V W b s p c nb) : W.cell? ⟨nb, 0, none⟩ = some (.slice none 0 0) ∧ W.cell? ⟨nb, 1, none⟩ = some (.slice none 0 0) ∧ W.cell? ⟨nb, 2, none⟩ = some (.slice none 0 0) ∧ W.frozen? ⟨nb, 0, none⟩ = false ∧ W.frozen? ⟨nb, 2, none⟩ = false :=
  ⟨by rw [cell_of_row _ _ _ _ _ _ h.nf]; rfl, by rw [cell_of_row _ _ _ _ _ _ h.nf]; rfl, by rw [cell_of_row _ _ _ _ _ _ h.nf]; rfl, frozen_of_row W nb 0 _ _ h.nf, frozen_of_row W nb 2 _ _ h.nf⟩
theorem ns_open (V : World) (s : ByteArray) (hs : s.size ≤ 281474976710656) : NS V ((V.alloc (.cells #[.slice none 0 0, .slice none 0 0, .slice none 0 0] 26)).alloc (.cells #[.bool true, .string s, .int .i64 0, .int .i64 0] 111)) (V.heap.size + 1) s 0 0 V.heap.size := by
  refine ⟨⟨?_, Nat.zero_le _, hs⟩, heap_alloc2_old V _ _, ((Fr.refl _ V).alloc _).alloc _, by omega⟩
  exact heap_alloc2_new V _ _
set_option maxRecDepth 100000 in
set_option maxHeartbeats 1000000 in
theorem nodeOther {pg q : Int} (hpg : pg = 1024 ∨ pg = 2048 ∨ pg = 4096 ∨ pg = 8192) (w : World) (s : ByteArray) (hsz : s.size ≤ 1000000000) (F0 F1 : Value) (h1 : (rKind s).1 ≠ 1) (h2 : (rKind s).1 ≠ 2) :
    Calls Try.prog 52 #[.agg #[F0, F1], frameV pg q, .string s] w fun e w' => e = .returned (.agg #[.slice none 0 0, .slice none 0 0, .slice none 0 0]) ∧ Same w w' := by
  obtain ⟨V, hV⟩ : ∃ V, V = ((w.alloc (.cells #[F0, F1] 59)).alloc (.cells #[.int .i64 pg, .int .i64 q] 48)).alloc (.cells #[.slice none 0 0, .slice none 0 0, .slice none 0 0] 26) := ⟨_, rfl⟩
  have sx : Same w V := by rw [hV]; exact (((Fr.refl _ w).alloc _).alloc _).alloc _
  have x1 : V.cell? ⟨w.heap.size, 1, none⟩ = some F1 := by rw [hV, cell_of_row _ _ _ _ _ _ (heap3 w _ _ _).1]; rfl
  have a0 : V.cell? ⟨w.heap.size + 1, 0, none⟩ = some (.int .i64 pg) := by rw [hV, cell_of_row _ _ _ _ _ _ (heap3 w _ _ _).2.1]; rfl
  have a1 : V.cell? ⟨w.heap.size + 1, 1, none⟩ = some (.int .i64 q) := by rw [hV, cell_of_row _ _ _ _ _ _ (heap3 w _ _ _).2.1]; rfl
  have r2 : V.heap[w.heap.size + 1 + 1]? = some (.cells #[.slice none 0 0, .slice none 0 0, .slice none 0 0] 26 (0, 0)) := by rw [hV]; exact (heap3 w _ _ _).2.2
  have hVs : V.heap.size = w.heap.size + 1 + 1 + 1 := by rw [hV]; simp
  have HO : Hid (∀ W : World, W = ((V.alloc (.cells #[.slice none 0 0, .slice none 0 0, .slice none 0 0] 26)).alloc (.cells #[.bool true, .string s, .int .i64 0, .int .i64 0] 111)) → NS V W (V.heap.size + 1) s 0 0 V.heap.size) := fun W h => by rw [h]; exact ns_open V s (by omega)
  have HRES : Hid (∀ (tmps : Array Value) (W : World) (cs : Array Value), W.heap[w.heap.size + 1 + 1]? = some (.cells cs 26 (0, 0)) → cs.size = 3 → tmps.getD 6 undef = .pointer (some ⟨w.heap.size + 1 + 1, 0, none⟩) → (results Try.f52 tmps).run Try.prog W = .ok (.agg cs) W) := fun tmps W cs hh h2 hp => results_cell_row (p := 6) (ty := 26) (by kernel_rfl) tmps _ (w.heap.size + 1 + 1) 26 _ (0, 0) _ hp hh Try.underlying26 rfl (by rw [h2]; kernel_rfl)
  obtain ⟨kd, hkd⟩ : ∃ kd, kd = ((rKind s).1 : Int) := ⟨_, rfl⟩
  have k1 : kd ≠ 1 := by omega
  have k2 : kd ≠ 2 := by omega
  have HK : Hid (∀ (W : World) (b : Nat), RdAt W b s 0 0 → Calls Try.prog 71 #[.pointer (some ⟨b, 0, none⟩)] W fun e w' => e = .returned (.int .u8 kd) ∧ RdAt w' b s (rKind s).2.1 (rKind s).2.2 ∧ RdStep b W w') := fun W b h => by rw [hkd]; exact kind_calls h
  clear hkd h1 h2
  go_enter Try.func52, Try.ntmps52
  go_wp2_with fail
  rw [← hV]
  clear hV
  refine (open_calls _ s).mono ?_
  rintro e W0 ⟨rfl, hW0⟩
  have K0 := HO.out W0 hW0
  clear hW0 HO
  have hbs : (V.alloc (.cells #[.slice none 0 0, .slice none 0 0, .slice none 0 0] 26)).heap.size = V.heap.size + 1 := by simp
  rw [hbs]
  rw [← hVs]
  obtain ⟨nb, hnb⟩ : ∃ nb, nb = V.heap.size := ⟨_, rfl⟩
  obtain ⟨rb, hrb⟩ : ∃ rb, rb = V.heap.size + 1 := ⟨_, rfl⟩
  rw [← hrb, ← hnb] at K0
  rw [← hrb, ← hnb]
  have HVS : Hid (nb = w.heap.size + 1 + 1 + 1 ∧ rb = nb + 1 ∧ V.heap.size = nb) := ⟨by omega, by omega, hnb.symm⟩
  clear hbs hnb hrb hVs
  have c0 := K0.base.keep a0
  have c1 := K0.base.keep a1
  go_wp2_with fail
  refine (Room_calls hpg _).mono ?_
  rintro e W1 ⟨rfl, s1⟩
  clear hpg
  obtain ⟨room, hroom⟩ : ∃ room, room = pg - 32 := ⟨_, rfl⟩
  rw [← hroom]
  have HRM : Hid (room = pg - 32) := hroom
  clear hroom
  have K1 := K0.same s1
  clear K0 s1 c0 c1
  go_wp2_with fail
  refine (HK.out _ _ K1.rd).mono ?_
  rintro e W2 ⟨rfl, hr2, st2⟩
  have K2 := K1.rstep hr2 st2
  clear K1 hr2 st2
  obtain ⟨n0, n1, n2, z0, z2⟩ := K2.cells
  have hR2 := (K2.base.block (w.heap.size + 1 + 1) (lt_of_heap r2) (fun e => e)).trans r2
  go_wp2_with (refine wpList_store_whole (by rfl) 26 _ _ (by rfl) (w.heap.size + 1 + 1) #[.slice none 0 0, .slice none 0 0, .slice none 0 0] #[.slice none 0 0, .slice none 0 0, .slice none 0 0] 26 (by rfl) (by rfl) hR2 rfl (by kernel_rfl) (by kernel_rfl) ?_; intro W3 r3 f3)
  exact bodyPost_ret (HRES.out _ _ _ r3 rfl rfl) rfl ⟨rfl, Fr.trans (sx.trans K2.base) f3 (fun i hi e => by omega)⟩
/-- The pairs that are read of a leaf's bytes. -/
def rdLeaf (pg : Int) (s : ByteArray) : List (ByteArray × ByteArray) := (rListG (rdPair pg s) s (rKind s).2.1 (rKind s).2.2 (pg - 32).toNat).1
set_option maxRecDepth 100000 in
set_option maxHeartbeats 1000000 in
theorem nodeLeaf {pg q : Int} (hpg : pg = 1024 ∨ pg = 2048 ∨ pg = 4096 ∨ pg = 8192) (w : World) (s : ByteArray) (hsz : s.size ≤ 1000000000) (F0 F1 : Value) (h1 : (rKind s).1 = 1) :
    Calls Try.prog 52 #[.agg #[F0, F1], frameV pg q, .string s] w fun e w' => ∃ ao cap, e = .returned (.agg #[.slice ao (rdLeaf pg s).length cap, .slice none 0 0, .slice none 0 0]) ∧ w'.ownsRow 0 33 2 (.slice ao (rdLeaf pg s).length cap) (rdLeaf pg s).length (pcells (rdLeaf pg s)) ∧ Same w w' := by
  obtain ⟨V, hV⟩ : ∃ V, V = ((w.alloc (.cells #[F0, F1] 59)).alloc (.cells #[.int .i64 pg, .int .i64 q] 48)).alloc (.cells #[.slice none 0 0, .slice none 0 0, .slice none 0 0] 26) := ⟨_, rfl⟩
  have sx : Same w V := by rw [hV]; exact (((Fr.refl _ w).alloc _).alloc _).alloc _
  have x1 : V.cell? ⟨w.heap.size, 1, none⟩ = some F1 := by rw [hV, cell_of_row _ _ _ _ _ _ (heap3 w _ _ _).1]; rfl
  have a0 : V.cell? ⟨w.heap.size + 1, 0, none⟩ = some (.int .i64 pg) := by rw [hV, cell_of_row _ _ _ _ _ _ (heap3 w _ _ _).2.1]; rfl
  have a1 : V.cell? ⟨w.heap.size + 1, 1, none⟩ = some (.int .i64 q) := by rw [hV, cell_of_row _ _ _ _ _ _ (heap3 w _ _ _).2.1]; rfl
  have r2 : V.heap[w.heap.size + 1 + 1]? = some (.cells #[.slice none 0 0, .slice none 0 0, .slice none 0 0] 26 (0, 0)) := by rw [hV]; exact (heap3 w _ _ _).2.2
  have hVs : V.heap.size = w.heap.size + 1 + 1 + 1 := by rw [hV]; simp
  have HO : Hid (∀ W : World, W = ((V.alloc (.cells #[.slice none 0 0, .slice none 0 0, .slice none 0 0] 26)).alloc (.cells #[.bool true, .string s, .int .i64 0, .int .i64 0] 111)) → NS V W (V.heap.size + 1) s 0 0 V.heap.size) := fun W h => by rw [h]; exact ns_open V s (by omega)
  have HRES : Hid (∀ (tmps : Array Value) (W : World) (cs : Array Value), W.heap[w.heap.size + 1 + 1]? = some (.cells cs 26 (0, 0)) → cs.size = 3 → tmps.getD 6 undef = .pointer (some ⟨w.heap.size + 1 + 1, 0, none⟩) → (results Try.f52 tmps).run Try.prog W = .ok (.agg cs) W) := fun tmps W cs hh h2 hp => results_cell_row (p := 6) (ty := 26) (by kernel_rfl) tmps _ (w.heap.size + 1 + 1) 26 _ (0, 0) _ hp hh Try.underlying26 rfl (by rw [h2]; kernel_rfl)
  have HK : Hid (∀ (W : World) (b : Nat), RdAt W b s 0 0 → Calls Try.prog 71 #[.pointer (some ⟨b, 0, none⟩)] W fun e w' => e = .returned (.int .u8 1) ∧ RdAt w' b s (rKind s).2.1 (rKind s).2.2 ∧ RdStep b W w') := fun W b h => by have := kind_calls h; rw [h1] at this; exact this
  have HL : Hid (∀ (W : World) (b nb : Nat), NS V W b s (rKind s).2.1 (rKind s).2.2 nb → Calls Try.prog 72 #[.pointer (some ⟨b, 0, none⟩), .int .i64 (pg - 32), .func (.func 73) #[] #[.pointer (some ⟨w.heap.size + 1, 0, none⟩)]] W fun e w' => ∃ ao cap p c, e = .returned (.slice ao (rdLeaf pg s).length cap) ∧ w'.ownsRow 0 33 2 (.slice ao (rdLeaf pg s).length cap) (rdLeaf pg s).length (pcells (rdLeaf pg s)) ∧ (∀ k, ao.map (·.block) = some k → V.heap.size ≤ k ∧ k ≠ nb) ∧ NS V w' b s p c nb) := fun W b nb h =>
    (listPair_calls h.rd (by omega) (pg - 32).toNat (pg - 32) (by omega) (by omega) hpg (w.heap.size + 1) (by have := h.ne.1; omega) (h.base.keep a0) (h.base.keep a1)).mono fun e w' ⟨ao, cap, he, ho, hf, hr, hs⟩ => ⟨ao, cap, _, _, he, ho, fun k hk => by have := hf k hk; have := h.base.size; have := lt_of_heap h.nf; omega, h.rstep hr hs⟩
  obtain ⟨L, hL⟩ : ∃ L, L = rdLeaf pg s := ⟨_, rfl⟩
  rw [← hL] at HL ⊢
  clear hL h1
  go_enter Try.func52, Try.ntmps52
  go_wp2_with fail
  rw [← hV]
  clear hV
  refine (open_calls _ s).mono ?_
  rintro e W0 ⟨rfl, hW0⟩
  have K0 := HO.out W0 hW0
  clear hW0 HO
  have hbs : (V.alloc (.cells #[.slice none 0 0, .slice none 0 0, .slice none 0 0] 26)).heap.size = V.heap.size + 1 := by simp
  rw [hbs]
  rw [← hVs]
  obtain ⟨nb, hnb⟩ : ∃ nb, nb = V.heap.size := ⟨_, rfl⟩
  obtain ⟨rb, hrb⟩ : ∃ rb, rb = V.heap.size + 1 := ⟨_, rfl⟩
  rw [← hrb, ← hnb] at K0
  rw [← hrb, ← hnb]
  have HVS : Hid (nb = w.heap.size + 1 + 1 + 1 ∧ rb = nb + 1 ∧ V.heap.size = nb) := ⟨by omega, by omega, hnb.symm⟩
  clear hbs hnb hrb hVs
  have c0 := K0.base.keep a0
  have c1 := K0.base.keep a1
  go_wp2_with fail
  refine (Room_calls hpg _).mono ?_
  rintro e W1 ⟨rfl, s1⟩
  clear hpg
  obtain ⟨room, hroom⟩ : ∃ room, room = pg - 32 := ⟨_, rfl⟩
  rw [← hroom] at HL ⊢
  have HRM : Hid (room = pg - 32) := hroom
  clear hroom
  have K1 := K0.same s1
  clear K0 s1 c0 c1
  go_wp2_with fail
  refine (HK.out _ _ K1.rd).mono ?_
  rintro e W2 ⟨rfl, hr2, st2⟩
  have K2 := K1.rstep hr2 st2
  clear K1 hr2 st2
  obtain ⟨n0, n1, n2, z0, z2⟩ := K2.cells
  go_wp2_with fail
  refine (HL.out _ _ _ K2).mono ?_
  rintro e W3 ⟨ao, cap, p3, c3, rfl, ho, hf, K3⟩
  clear K2 n0 n1 n2 z0 z2
  obtain ⟨n0, n1, n2, z0, z2⟩ := K3.cells
  have t4 : Fr (fun i => i = nb) W3 (W3.setCell ⟨nb, 0, none⟩ (.slice ao L.length cap)) := (Fr.refl (fun i => i = nb) W3).setCell (p := ⟨nb, 0, none⟩) (fun _ => rfl) _
  have hR3 := (K3.base.block (w.heap.size + 1 + 1) (lt_of_heap r2) (fun e => e)).trans r2
  have hR2 := (t4.block (w.heap.size + 1 + 1) (lt_of_heap hR3) (fun e => by have := HVS.out.1; omega)).trans hR3
  go_wp2_with (refine wpList_store_whole (by rfl) 26 _ _ (by rfl) (w.heap.size + 1 + 1) #[.slice ao L.length cap, .slice none 0 0, .slice none 0 0] #[.slice none 0 0, .slice none 0 0, .slice none 0 0] 26 (by rfl) (by rfl) hR2 rfl (by kernel_rfl) (by kernel_rfl) ?_; intro W5 r5 f5)
  have hv := HVS.out
  have ho4 := own_frame2 ho t4 (fun k hk e => (hf k (by rw [← own_blk, hk])).2 e)
  have ho5 := own_frame2 ho4 f5 (fun k hk e => by have := (hf k (by rw [← own_blk, hk])).1; omega)
  exact bodyPost_ret (HRES.out _ _ _ r5 rfl rfl) rfl ⟨ao, cap, rfl, ho5, Fr.trans (Fr.trans (sx.trans K3.base) t4 (fun i hi e => by omega)) f5 (fun i hi e => by omega)⟩
def rdBranch_page (pg q : Int) (s : ByteArray) : List ByteArray × List Kid × Nat × Nat := rListK (rdKid q s) (fun p c => rText s p c (pg / 16)) s (rKind s).2.1 (rKind s).2.2 (pg - 32).toNat
set_option maxRecDepth 100000 in
set_option maxHeartbeats 1000000 in
theorem nodeBranch_page {pg q : Int} (hpg : pg = 1024 ∨ pg = 2048 ∨ pg = 4096 ∨ pg = 8192) (w : World) (s : ByteArray) (hsz : s.size ≤ 1000000000) (F0 : Value) (h1 : (rKind s).1 = 2) :
    Calls Try.prog 52 #[.agg #[F0, (.func (.func 40) #[] #[])], frameV pg q, .string s] w fun e w' => ∃ ka ck ao cap, e = .returned (.agg #[.slice none 0 0, .slice ao (rdBranch_page pg q s).1.length cap, .slice ka (rdBranch_page pg q s).2.1.length ck]) ∧ w'.ownsRow 0 9 1 (.slice ao (rdBranch_page pg q s).1.length cap) (rdBranch_page pg q s).1.length (scells (rdBranch_page pg q s).1) ∧ w'.ownsRow 0 37 33 (.slice ka (rdBranch_page pg q s).2.1.length ck) (rdBranch_page pg q s).2.1.length (kcellsL (rdBranch_page pg q s).2.1) ∧ Same w w' := by
  obtain ⟨V, hV⟩ : ∃ V, V = ((w.alloc (.cells #[F0, (.func (.func 40) #[] #[])] 59)).alloc (.cells #[.int .i64 pg, .int .i64 q] 48)).alloc (.cells #[.slice none 0 0, .slice none 0 0, .slice none 0 0] 26) := ⟨_, rfl⟩
  have sx : Same w V := by rw [hV]; exact (((Fr.refl _ w).alloc _).alloc _).alloc _
  have x1 : V.cell? ⟨w.heap.size, 1, none⟩ = some (.func (.func 40) #[] #[]) := by rw [hV, cell_of_row _ _ _ _ _ _ (heap3 w _ _ _).1]; rfl
  have a0 : V.cell? ⟨w.heap.size + 1, 0, none⟩ = some (.int .i64 pg) := by rw [hV, cell_of_row _ _ _ _ _ _ (heap3 w _ _ _).2.1]; rfl
  have a1 : V.cell? ⟨w.heap.size + 1, 1, none⟩ = some (.int .i64 q) := by rw [hV, cell_of_row _ _ _ _ _ _ (heap3 w _ _ _).2.1]; rfl
  have r2 : V.heap[w.heap.size + 1 + 1]? = some (.cells #[.slice none 0 0, .slice none 0 0, .slice none 0 0] 26 (0, 0)) := by rw [hV]; exact (heap3 w _ _ _).2.2
  have hVs : V.heap.size = w.heap.size + 1 + 1 + 1 := by rw [hV]; simp
  have HO : Hid (∀ W : World, W = ((V.alloc (.cells #[.slice none 0 0, .slice none 0 0, .slice none 0 0] 26)).alloc (.cells #[.bool true, .string s, .int .i64 0, .int .i64 0] 111)) → NS V W (V.heap.size + 1) s 0 0 V.heap.size) := fun W h => by rw [h]; exact ns_open V s (by omega)
  have HRES : Hid (∀ (tmps : Array Value) (W : World) (cs : Array Value), W.heap[w.heap.size + 1 + 1]? = some (.cells cs 26 (0, 0)) → cs.size = 3 → tmps.getD 6 undef = .pointer (some ⟨w.heap.size + 1 + 1, 0, none⟩) → (results Try.f52 tmps).run Try.prog W = .ok (.agg cs) W) := fun tmps W cs hh h2 hp => results_cell_row (p := 6) (ty := 26) (by kernel_rfl) tmps _ (w.heap.size + 1 + 1) 26 _ (0, 0) _ hp hh Try.underlying26 rfl (by rw [h2]; kernel_rfl)
  have HK : Hid (∀ (W : World) (b : Nat), RdAt W b s 0 0 → Calls Try.prog 71 #[.pointer (some ⟨b, 0, none⟩)] W fun e w' => e = .returned (.int .u8 2) ∧ RdAt w' b s (rKind s).2.1 (rKind s).2.2 ∧ RdStep b W w') := fun W b h => by have := kind_calls h; rw [h1] at this; exact this
  have HL : Hid (∀ (W : World) (b nb fb : Nat), RK V W b s (rKind s).2.1 (rKind s).2.2 fb nb true [] none 0 → Calls Try.prog 76 #[.pointer (some ⟨b, 0, none⟩), .int .i64 (pg - 32), .func (.func 77) #[] #[.pointer (some ⟨fb, 0, none⟩), .pointer (some ⟨nb, 0, none⟩), .pointer (some ⟨w.heap.size + 1, 0, none⟩), .pointer (some ⟨w.heap.size, 0, none⟩)]] W fun e w' => ∃ ka ck ao cap f p c, e = .returned (.slice ka (rdBranch_page pg q s).2.1.length ck) ∧ w'.ownsRow 0 37 33 (.slice ka (rdBranch_page pg q s).2.1.length ck) (rdBranch_page pg q s).2.1.length (kcellsL (rdBranch_page pg q s).2.1) ∧ (∀ k, ka.map (·.block) = some k → V.heap.size ≤ k ∧ ¬ RKf b fb nb ao k) ∧ RK V w' b s p c fb nb f (rdBranch_page pg q s).1 ao cap) := fun W b nb fb h =>
    (listKid_page hpg h hsz (pg - 32).toNat (pg - 32) (by omega) (by omega) x1 a0 a1).mono fun e w' ⟨ka, ck, ao, cap, f, he, ho, hf, hk⟩ => ⟨ka, ck, ao, cap, f, _, _, he, ho, hf, hk⟩
  obtain ⟨L, hL⟩ : ∃ L, L = rdBranch_page pg q s := ⟨_, rfl⟩
  rw [← hL] at HL ⊢
  clear hL h1
  go_enter Try.func52, Try.ntmps52
  go_wp2_with fail
  rw [← hV]
  clear hV
  refine (open_calls _ s).mono ?_
  rintro e W0 ⟨rfl, hW0⟩
  have K0 := HO.out W0 hW0
  clear hW0 HO
  have hbs : (V.alloc (.cells #[.slice none 0 0, .slice none 0 0, .slice none 0 0] 26)).heap.size = V.heap.size + 1 := by simp
  rw [hbs]
  rw [← hVs]
  obtain ⟨nb, hnb⟩ : ∃ nb, nb = V.heap.size := ⟨_, rfl⟩
  obtain ⟨rb, hrb⟩ : ∃ rb, rb = V.heap.size + 1 := ⟨_, rfl⟩
  rw [← hrb, ← hnb] at K0
  rw [← hrb, ← hnb]
  have HVS : Hid (nb = w.heap.size + 1 + 1 + 1 ∧ rb = nb + 1 ∧ V.heap.size = nb) := ⟨by omega, by omega, hnb.symm⟩
  clear hbs hnb hrb hVs
  have c0 := K0.base.keep a0
  have c1 := K0.base.keep a1
  go_wp2_with fail
  refine (Room_calls hpg _).mono ?_
  rintro e W1 ⟨rfl, s1⟩
  clear hpg
  obtain ⟨room, hroom⟩ : ∃ room, room = pg - 32 := ⟨_, rfl⟩
  rw [← hroom] at HL ⊢
  have HRM : Hid (room = pg - 32) := hroom
  clear hroom
  have K1 := K0.same s1
  clear K0 s1 c0 c1
  go_wp2_with fail
  refine (HK.out _ _ K1.rd).mono ?_
  rintro e W2 ⟨rfl, hr2, st2⟩
  have K2 := K1.rstep hr2 st2
  clear K1 hr2 st2
  obtain ⟨n0, n1, n2, z0, z2⟩ := K2.cells
  have HR0 : Hid (RK V (W2.alloc (.cells #[.bool true] 4)) rb s (rKind s).2.1 (rKind s).2.2 W2.heap.size nb true [] none 0) := by
    have ks := K2.same ((Fr.refl _ W2).alloc (.cells #[.bool true] 4))
    have l1 := K2.rd.lt
    have l2 := lt_of_heap K2.nf
    obtain ⟨e1, e2, e3⟩ := K2.ne
    exact ⟨ks.rd, ⟨e1, by omega, e2, by omega, e3, by omega⟩, heap_alloc_new W2 _, ks.nf, World.ownsRow_nil _ _ _ _, by simp, ks.base⟩
  go_wp2_with fail
  obtain ⟨fb, hfb⟩ : ∃ fb, fb = W2.heap.size := ⟨_, rfl⟩
  rw [← hfb] at HR0 ⊢
  clear hfb
  refine (HL.out _ _ _ _ HR0.out).mono ?_
  rintro e W3 ⟨ka, ck, ao, cap, f, p3, c3, rfl, ho, hf, K3⟩
  clear K2 n0 n1 n2 z0 z2 HR0
  have n0 : W3.cell? ⟨nb, 0, none⟩ = some (.slice none 0 0) := by rw [cell_of_row _ _ _ _ _ _ K3.nf]; rfl
  have n1 : W3.cell? ⟨nb, 1, none⟩ = some (.slice ao L.1.length cap) := by rw [cell_of_row _ _ _ _ _ _ K3.nf]; rfl
  have n2 : W3.cell? ⟨nb, 2, none⟩ = some (.slice none 0 0) := by rw [cell_of_row _ _ _ _ _ _ K3.nf]; rfl
  have z2 := frozen_of_row W3 nb 2 _ _ K3.nf
  have t4 : Fr (fun i => i = nb) W3 (W3.setCell ⟨nb, 2, none⟩ (.slice ka L.2.1.length ck)) := (Fr.refl (fun i => i = nb) W3).setCell (p := ⟨nb, 2, none⟩) (fun _ => rfl) _
  have hR3 := (K3.base.block (w.heap.size + 1 + 1) (lt_of_heap r2) (fun e => e)).trans r2
  have hR2 := (t4.block (w.heap.size + 1 + 1) (lt_of_heap hR3) (fun e => by have := HVS.out.1; omega)).trans hR3
  go_wp2_with (refine wpList_store_whole (by rfl) 26 _ _ (by rfl) (w.heap.size + 1 + 1) #[.slice none 0 0, .slice ao L.1.length cap, .slice ka L.2.1.length ck] #[.slice none 0 0, .slice none 0 0, .slice none 0 0] 26 (by rfl) (by rfl) hR2 rfl (by kernel_rfl) (by kernel_rfl) ?_; intro W5 r5 f5)
  have hv := HVS.out
  have ho4 := own_frame2 ho t4 (fun k hk e => (hf k (by rw [← own_blk, hk])).2 (Or.inr (Or.inr (Or.inl e))))
  have ho5 := own_frame2 ho4 f5 (fun k hk e => by have := (hf k (by rw [← own_blk, hk])).1; omega)
  have hs4 := own_frame2 K3.own t4 (fun k hk e => (K3.fre k (by rw [← own_blk, hk])).2.2.2 e)
  have hs5 := own_frame2 hs4 f5 (fun k hk e => by have := (K3.fre k (by rw [← own_blk, hk])).1; omega)
  exact bodyPost_ret (HRES.out _ _ _ r5 rfl rfl) rfl ⟨ka, ck, ao, cap, rfl, hs5, ho5, Fr.trans (Fr.trans (sx.trans K3.base) t4 (fun i hi e => by omega)) f5 (fun i hi e => by omega)⟩
end Go.Proofs.Ytjlbkagkmcelgaa
