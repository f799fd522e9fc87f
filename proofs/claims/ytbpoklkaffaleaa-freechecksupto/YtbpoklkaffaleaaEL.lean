/- free: open. -/
import Derived.Test.YtbpoklkaffaleaaEK
namespace Go.Proofs.Ytbpoklkaffaleaa
open Go.RowKit Go.Maps

set_option maxRecDepth 100000 in
set_option maxHeartbeats 1000000 in
theorem open_batch {w0 w : World} {mb cb co : Nat} {M : Mk} {L : List Bt} {x : Bt} (h : MkAt w0 w mb M) (hch : BtRow w0 M.ca cb co L) (hcl : M.cl = L.length) (hx : L[M.opened]? = some x) (hlm : L.length ≤ 1000) (hb : M.n + 1 + x.ns.length ≤ 500000) :
    Calls Try.prog 61 #[.pointer (some ⟨mb, 0, none⟩)] w fun e w' => e = .returned (.tuple #[]) ∧ MkAt w0 w' mb { M with opened := M.opened + 1, n := M.n + 1 + x.ns.length, D := loD (loD M.D [x.pg]) x.ns } ∧ Fr (fun k => k = mb ∨ k = M.lb) w w' := by
  have HH : Hid (MkAt w0 w mb M) := h
  obtain ⟨e0, e1, e2⟩ := (hch.same h.base).cells _ _ hx
  obtain ⟨hpa, _⟩ := (hch.same h.base).place (by intro e; rw [e] at hx; simp at hx)
  obtain ⟨c0, c1, c2, c3, c4, c5⟩ := h.cell
  rw [hpa] at c0
  have hlt : M.opened < L.length := (List.getElem?_eq_some_iff.1 hx).1
  have hlt1 : (M.opened : Int) < (M.cl : Int) := by omega
  have hlt2 : M.opened < M.cl := by omega
  have HE : Hid (BtOk w x) := e2
  have HLT : Hid (M.opened < 1000) := by show _ < _; omega
  have HBN : Hid (M.n + 1 + x.ns.length ≤ 500000) := hb
  have sa : Same w (w.alloc (.cells #[.int .u32 0, .slice none 0 0] 45)) := (Fr.refl _ w).alloc _
  have c0a := sa.keep c0
  have c2a := sa.keep c2
  have e0a := sa.keep e0
  have e1a := sa.keep e1
  clear h hch hcl hx hpa hlt c1 c3 c4 c5 e2 hlm hb sa
  go_enter Try.func61, Try.ntmps61
  go_wp2_with fail
  go_region
  obtain ⟨X, hX⟩ : ∃ X, X = (w.alloc (.cells #[.int .u32 (x.pg : Int), .slice x.na x.ns.length x.nc] 45)).drew := ⟨_, rfl⟩
  have sX : Same w X := by rw [hX]; exact Fr.drew ((Fr.refl _ w).alloc _)
  have gX : X.heap[w.heap.size]? = some (.cells #[.int .u32 (x.pg : Int), .slice x.na x.ns.length x.nc] 45 (0, 0)) := by rw [hX]; exact heap_alloc_new w _
  rw [← hX]
  obtain ⟨bb, hbb⟩ : ∃ bb, bb = w.heap.size := ⟨_, rfl⟩
  rw [← hbb] at gX ⊢
  have HWX : Hid (Same w X) := sX
  have HX : Hid (MkAt w0 X mb M ∧ BtOk X x ∧ X.heap[bb]? = some (.cells #[.int .u32 (x.pg : Int), .slice x.na x.ns.length x.nc] 45 (0, 0)) ∧ bb ≠ M.lb) := ⟨HH.out.same sX, HE.out.same sX, gX, by have := HH.out.set.lt; omega⟩
  have b0 : X.cell? ⟨bb, 0, none⟩ = some (.int .u32 (x.pg : Int)) := (cell_of_row _ _ _ _ _ _ gX).trans rfl
  clear hX sX gX hbb c0 c2 e0 e1 c0a c2a e0a e1a HH HE hlt1 hlt2
  obtain ⟨Y, hY⟩ : ∃ Y, Y = X.alloc (.cells #[.int .u32 (x.pg : Int)] 25) := ⟨_, rfl⟩
  have sY : Same X Y := by rw [hY]; exact (Fr.refl _ X).alloc _
  have gY := heap_alloc_new X (.cells #[.int .u32 (x.pg : Int)] 25)
  rw [← hY] at gY
  have HWY : Hid (Same w Y) := HWX.out.trans sY
  have HY : Hid (MkAt w0 Y mb M ∧ BtOk Y x ∧ Y.heap[bb]? = some (.cells #[.int .u32 (x.pg : Int), .slice x.na x.ns.length x.nc] 45 (0, 0)) ∧ NRow Y (some ⟨X.heap.size, 0, none⟩) X.heap.size 0 [x.pg]) := ⟨HX.out.1.same sY, HX.out.2.1.same sY, (sY.block _ (lt_of_heap HX.out.2.2.1) (fun f => f)).trans HX.out.2.2.1, nrow_one _ _ gY⟩
  clear sY gY
  go_wp2_with fail
  rw [← hY]
  clear hY b0
  refine (loosen_calls (cp := 1) HY.out.1 HY.out.2.2.2 (by simp) (by have := HBN.out; simp; omega) (by simp; exact HY.out.2.1.hpg)).mono ?_
  rintro e W1 ⟨rfl, m1, f1⟩
  have HM1 : Hid (MkAt w0 W1 mb { M with n := M.n + 1, D := loD M.D [x.pg] }) := m1
  have HB1 : Hid (W1.heap[bb]? = some (.cells #[.int .u32 (x.pg : Int), .slice x.na x.ns.length x.nc] 45 (0, 0))) := (f1.block _ (lt_of_heap HY.out.2.2.1) HX.out.2.2.2).trans HY.out.2.2.1
  have HR1 : Hid (NRow W1 x.na x.nb x.no x.ns) := HY.out.2.1.row.fr f1 (fun e => HY.out.2.1.row.neSet HY.out.1.set e)
  have b1 : W1.cell? ⟨bb, 1, none⟩ = some (.slice x.na x.ns.length x.nc) := (cell_of_row _ _ _ _ _ _ HB1.out).trans rfl
  have HF1 : Hid (Fr (fun k => k = M.lb) w W1) := Fr.trans (HWY.out.mono (fun _ _ e => e.elim)) f1 (fun _ _ e => e)
  clear m1 f1
  go_wp2_with fail
  refine (loosen_calls (cp := x.nc) HM1.out HR1.out HY.out.2.1.hl HBN.out HY.out.2.1.hns).mono ?_
  rintro e W2 ⟨rfl, m2, f2⟩
  have HM2 : Hid (MkAt w0 W2 mb { M with n := M.n + 1 + x.ns.length, D := loD (loD M.D [x.pg]) x.ns }) := m2
  obtain ⟨_, _, c2, _⟩ := m2.cell
  have z2 := m2.frozen 2
  have hw : RowKit.wrap64 ((M.opened : Int) + 1) = (M.opened : Int) + 1 := by have := HLT.out; unfold RowKit.wrap64; omega
  have HF2 : Hid (Fr (fun k => k = M.lb) w W2) := Fr.trans HF1.out f2 (fun _ _ e => e)
  clear m2 f2 b1
  go_wp2_with fail
  go_end0
  have m2 := HM2.out
  have f : Fr (fun k => k = mb) W2 (W2.setCell ⟨mb, 2, none⟩ (.int .i64 ((M.opened : Int) + 1))) := (Fr.refl (fun k => k = mb) _).setCell (p := ⟨mb, 2, none⟩) (fun _ => rfl) _
  refine ⟨rfl, ⟨six_set2 m2.hm _, m2.set.fr f (fun e => m2.ne e.symm), m2.sp.fr f (fun e => (m2.ap e).1), m2.ap, Fr.trans m2.base f (fun k hk e => by have := m2.ge.1; omega), m2.ge, m2.bn, m2.vs, m2.sc, m2.scm⟩, ?_⟩
  exact Fr.trans (HF2.out.mono (fun _ _ e => Or.inr e)) (f.mono (fun _ _ e => Or.inl e)) (fun _ _ e => e)
end Go.Proofs.Ytbpoklkaffaleaa
