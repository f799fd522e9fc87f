/- free: batches that come in, opened. -/
import Derived.Test.YtneopkhkkfckcaaIK
import Derived.Test.YtneopkhkkfckcaaYD
namespace Go.Proofs.Ytneopkhkkfckcaa
open Go.ChangeShapes Go.WideShapes Go.ChangeAt Go.RowKit Go.Joins

theorem pair_list {α : Type} (l : List α) (h : l.length = 2) : ∃ a b, l = [a, b] := by
  match l, h with
  | [a, b], _ => exact ⟨a, b, rfl⟩
instance : Inhabited Bt := ⟨⟨0, none, 0, 0, 0, []⟩⟩
theorem Try.cellsBatch : Try.prog.cellsOf 55 = 2 := by kernel_rfl
set_option maxRecDepth 100000 in
theorem open_batch_in {H : Type} {enc : TypeId × Value → H} {W : World} {cs : List Value} {x : DataW H × List MemPlace} {fuel : Nat}
    (hf : DataW.trod enc Try.prog W 0 (fun _ => true) true fuel 55 cs = some x) :
    ∃ b : Bt, cs = [.int .u32 (b.pg : Int), .slice b.na b.ns.length b.nc] ∧ NIn W b.na b.nb b.no b.nc b.ns ∧ BvOk W b ∧ b.ns.length + 1 ≤ Rows.uptoBulk x.1 := by
  obtain ⟨xs, n, rfl, rfl, hcl, hxl, hfi⟩ := DataW.trod_struct Try.underlying55 hf
  rw [Try.cellsBatch] at hcl
  obtain ⟨a0, a1, rfl⟩ := pair_list cs hcl
  obtain ⟨x0, x1, rfl⟩ := pair_list xs hxl
  have c1 : Try.prog.cellsOf 24 = 1 := by kernel_rfl
  have c2 : Try.prog.cellsOf 23 = 1 := by kernel_rfl
  have f0 := hfi 0 _ rfl
  have f1 := hfi 1 _ rfl
  simp only [List.getElem_toArray, List.getElem_cons_succ, List.getElem_cons_zero, c1, c2, List.drop_succ_cons, List.drop_zero, List.take_succ_cons, List.take_zero, List.getElem?_cons_succ, List.getElem?_cons_zero] at f0 f1
  obtain ⟨u, e0, g0, w0⟩ := DataW.trod_int Try.underlying24 f0
  obtain ⟨k, rfl, hk⟩ := u32_nat w0
  obtain ⟨A, pa, pb, po, pc, e1, h1, h2, h3⟩ := open_nums_in f1
  simp only [List.cons.injEq, and_true] at e0 e1
  subst e0 e1
  refine ⟨⟨k, pa, pb, po, pc, A⟩, rfl, h1, ⟨h1.row, hk, h3⟩, ?_⟩
  simp only [List.map_cons, List.map_nil, Rows.uptoBulk, Rows.uptoBulkAll]
  have := bulk_one x0.1
  omega
theorem bulk_sumB {H : Type} : ∀ (l : List Nat) (D : Nat → DataW H) (T : Nat → Bt), (∀ i ∈ l, (T i).ns.length + 1 ≤ Rows.uptoBulk (D i)) → wt (l.map T) ≤ Rows.uptoBulkAll (l.map D)
  | [], _, _, _ => Nat.le_refl _
  | i :: l, D, T, h => by
    have h1 := h i (List.mem_cons_self ..)
    have h2 := bulk_sumB l D T (fun j hj => h j (List.mem_cons_of_mem _ hj))
    simp only [List.map_cons, wt, Rows.uptoBulkAll]
    omega
end Go.Proofs.Ytneopkhkkfckcaa
