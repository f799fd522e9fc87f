/- free: owned and Check, for every chain. -/
import Derived.Test.YtajbifblbmlffaaEH
namespace Go.Proofs.Ytajbifblbmlffaa
open Go.RowKit Go.Maps

/-- A batch. -/
structure BvOk (w : World) (x : Bt) : Prop where
  row : NRow w x.na x.nb x.no x.ns
  hpg : x.pg < 4294967296
  hns : ∀ y ∈ x.ns, y < 4294967296
structure BvRow (w : World) (pa : Option Addr) (pb po : Nat) (L : List Bt) : Prop where
  place : L ≠ [] → pa = some ⟨pb, po, none⟩ ∧ pb < w.heap.size
  cells : ∀ (j : Nat) (x : Bt), L[j]? = some x → w.cell? ⟨pb, po + j * 2, none⟩ = some (.int .u32 (x.pg : Int)) ∧ w.cell? ⟨pb, po + j * 2 + 1, none⟩ = some (.slice x.na x.ns.length x.nc) ∧ BvOk w x
theorem BvOk.same {w w' : World} {x : Bt} (h : BvOk w x) (s : Same w w') : BvOk w' x := ⟨h.row.same s, h.hpg, h.hns⟩
theorem BvRow.same {w w' : World} {pa : Option Addr} {pb po : Nat} {L : List Bt} (h : BvRow w pa pb po L) (s : Same w w') : BvRow w' pa pb po L :=
  ⟨fun e => ⟨(h.place e).1, Nat.lt_of_lt_of_le (h.place e).2 s.size⟩, fun j x hx => by
    obtain ⟨h1, h2, h3⟩ := h.cells j x hx
    exact ⟨s.keep h1, s.keep h2, h3.same s⟩⟩
/-- How many numbers batches name. -/
def wt : List Bt → Nat
  | [] => 0
  | x :: L => x.ns.length + 1 + wt L
theorem wt_len (L : List Bt) : L.length ≤ wt L := by
  induction L with
  | nil => exact Nat.le_refl _
  | cons x L ih => simp only [wt, List.length_cons]; omega
/-- Check's answer. -/
def chkE (p q : Int) (pages : Nat) (L : List Bt) : Int := if frameP p q = false then 2 else if pages < 2 ∨ 65536 < pages then 2 else if (ocD p q pages (.map []) L).1 then 0 else 90
set_option maxRecDepth 100000 in
set_option maxHeartbeats 1000000 in
theorem fowned_bad {p q : Int} {pa : Option Addr} {n cp pages : Nat} (w : World) (hbad : frameP p q = false ∨ pages < 2 ∨ 65536 < pages) :
    Calls Try.prog 11 #[frameV p q, .slice pa n cp, .int .u32 (pages : Int)] w fun e w' => (∃ o0 o1 o2 om, e = .returned (.tuple #[.agg #[.int .i64 o0, .int .i64 o1, .int .u32 o2, .map om], .int .i64 2])) ∧ Same w w' := by
  have HM : Hid (∀ W, Calls Try.prog 25 #[.agg #[.int .i64 p, .int .i64 q]] W fun e w' => e = .returned (.bool (frameP p q)) ∧ Same W w') := fun W => may_calls p q W
  obtain ⟨V, hV⟩ : ∃ V, V = (w.alloc (.cells #[.int .i64 p, .int .i64 q] 23)).alloc (.cells #[.int .i64 0, .int .i64 0, .int .u32 0, .map none] 48) := ⟨_, rfl⟩
  have sx : Same w V := by rw [hV]; exact ((Fr.refl _ w).alloc _).alloc _
  have r0 : V.heap[w.heap.size]? = some (.cells #[.int .i64 p, .int .i64 q] 23 (0, 0)) := by rw [hV]; exact (((Fr.refl (fun _ => False) (w.alloc (.cells #[.int .i64 p, .int .i64 q] 23))).alloc _).block _ (by simp) (fun f => f)).trans (heap_alloc_new w _)
  have r1 : V.heap[w.heap.size + 1]? = some (.cells #[.int .i64 0, .int .i64 0, .int .u32 0, .map none] 48 (0, 0)) := by
    rw [hV]
    have := heap_alloc_new (w.alloc (.cells #[.int .i64 p, .int .i64 q] 23)) (.cells #[.int .i64 0, .int .i64 0, .int .u32 0, .map none] 48)
    simpa using this
  have HR1 : Hid (V.heap[w.heap.size + 1]? = some (.cells #[.int .i64 0, .int .i64 0, .int .u32 0, .map none] 48 (0, 0))) := r1
  have a0 : V.cell? ⟨w.heap.size, 0, none⟩ = some (.int .i64 p) := (cell_of_row _ _ _ _ _ _ r0).trans rfl
  have a1 : V.cell? ⟨w.heap.size, 1, none⟩ = some (.int .i64 q) := (cell_of_row _ _ _ _ _ _ r0).trans rfl
  have HSX : Hid (Same w V) := sx
  have HWV : Hid (w.heap.size < V.heap.size) := by show _ < _; rw [hV, World.size_alloc, World.size_alloc]; omega
  have fin : ∀ W, Same V W → Hid (W.heap[w.heap.size + 1]? = some (.cells #[.int .i64 0, .int .i64 0, .int .u32 0, .map none] 48 (0, 0))) := fun W s => (s.block _ (lt_of_heap HR1.out) (fun f => f)).trans HR1.out
  have HFin : Hid (∀ W, Same V W → Hid (W.heap[w.heap.size + 1]? = some (.cells #[.int .i64 0, .int .i64 0, .int .u32 0, .map none] 48 (0, 0)))) := fin
  clear fin r0 r1
  rw [hV] at a0 a1
  rcases hbad with hf | hf
  · rw [hf] at HM
    go_enter Try.func11, Try.ntmps11
    go_wp2_with fail
    rw [← hV]
    clear hV a0 a1 sx
    refine (HM.out _).mono ?_
    rintro e W0 ⟨rfl, s0⟩
    have HS0 : Hid (Same V W0) := s0
    clear s0
    have hres := HFin.out W0 HS0.out
    go_wp2_with (refine wpList_store_whole (by rfl) 48 _ _ (by rfl) (w.heap.size + 1) #[.int .i64 0, .int .i64 0, .int .u32 0, .map none] _ 48 (by rfl) (by rfl) hres.out rfl (by kernel_rfl) (by kernel_rfl) ?_; intro W7 r7 f7)
    try go_wp2_with fail
    refine bodyPost_ret (results_row_tmp1 rfl _ _ _ _ _ _ _ rfl r7 Try.underlying48 rfl (by kernel_rfl)) rfl ?_
    exact ⟨⟨_, _, _, _, rfl⟩, Fr.trans (HSX.out.trans HS0.out) f7 (fun kk hk e => by have := HWV.out; omega)⟩
  · have hpc : ((pages : Int) < 2 ∧ decide ((pages : Int) < 2) = true) ∨ (decide ((pages : Int) < 2) = false ∧ (65536 : Int) < (pages : Int)) := by
      rcases hf with h | h
      · exact .inl ⟨by omega, decide_eq_true (by omega)⟩
      · exact .inr ⟨decide_eq_false (by omega), by omega⟩
    clear hf
    cases hfp : frameP p q with
    | false =>
      rw [hfp] at HM
      go_enter Try.func11, Try.ntmps11
      go_wp2_with fail
      rw [← hV]
      clear hV a0 a1 sx hpc
      refine (HM.out _).mono ?_
      rintro e W0 ⟨rfl, s0⟩
      have HS0 : Hid (Same V W0) := s0
      clear s0
      have hres := HFin.out W0 HS0.out
      go_wp2_with (refine wpList_store_whole (by rfl) 48 _ _ (by rfl) (w.heap.size + 1) #[.int .i64 0, .int .i64 0, .int .u32 0, .map none] _ 48 (by rfl) (by rfl) hres.out rfl (by kernel_rfl) (by kernel_rfl) ?_; intro W7 r7 f7)
      try go_wp2_with fail
      refine bodyPost_ret (results_row_tmp1 rfl _ _ _ _ _ _ _ rfl r7 Try.underlying48 rfl (by kernel_rfl)) rfl ?_
      exact ⟨⟨_, _, _, _, rfl⟩, Fr.trans (HSX.out.trans HS0.out) f7 (fun kk hk e => by have := HWV.out; omega)⟩
    | true =>
      rw [hfp] at HM
      go_enter Try.func11, Try.ntmps11
      go_wp2_with fail
      rw [← hV]
      clear hV a0 a1 sx
      refine (HM.out _).mono ?_
      rintro e W0 ⟨rfl, s0⟩
      have HS0 : Hid (Same V W0) := s0
      clear s0
      rcases hpc with ⟨h1, h2⟩ | ⟨h1, h2⟩
      · have hres := HFin.out W0 HS0.out
        go_wp2_with (refine wpList_store_whole (by rfl) 48 _ _ (by rfl) (w.heap.size + 1) #[.int .i64 0, .int .i64 0, .int .u32 0, .map none] _ 48 (by rfl) (by rfl) hres.out rfl (by kernel_rfl) (by kernel_rfl) ?_; intro W7 r7 f7)
        try go_wp2_with fail
        refine bodyPost_ret (results_row_tmp1 rfl _ _ _ _ _ _ _ rfl r7 Try.underlying48 rfl (by kernel_rfl)) rfl ?_
        exact ⟨⟨_, _, _, _, rfl⟩, Fr.trans (HSX.out.trans HS0.out) f7 (fun kk hk e => by have := HWV.out; omega)⟩
      · have hres := HFin.out W0 HS0.out
        go_wp2_with (refine wpList_store_whole (by rfl) 48 _ _ (by rfl) (w.heap.size + 1) #[.int .i64 0, .int .i64 0, .int .u32 0, .map none] _ 48 (by rfl) (by rfl) hres.out rfl (by kernel_rfl) (by kernel_rfl) ?_; intro W7 r7 f7)
        try go_wp2_with fail
        refine bodyPost_ret (results_row_tmp1 rfl _ _ _ _ _ _ _ rfl r7 Try.underlying48 rfl (by kernel_rfl)) rfl ?_
        exact ⟨⟨_, _, _, _, rfl⟩, Fr.trans (HSX.out.trans HS0.out) f7 (fun kk hk e => by have := HWV.out; omega)⟩
end Go.Proofs.Ytajbifblbmlffaa
