/- free: numbers that come in, opened. -/
import Derived.Test.YtneopkhkkfckcaaIEJ
import Derived.Deep.Slices
import Derived.Deep.Strs
namespace Go.Proofs.Ytneopkhkkfckcaa
open Go.ChangeShapes Go.WideShapes Go.ChangeAt Go.RowKit Go.Joins

theorem u32_nat {u : Int} (h : (Lit.int .u32 u).wf = true) : ∃ k : Nat, u = (k : Int) ∧ k < 4294967296 := by
  obtain ⟨h1, h2⟩ := bounds_u32 h
  obtain ⟨k, rfl⟩ := Int.eq_ofNat_of_zero_le h1
  exact ⟨k, rfl, by omega⟩
theorem bulk_one {H : Type} (d : DataW H) : 1 ≤ Rows.uptoBulk d := by
  cases d with
  | lit l => cases l <;> simp [Rows.uptoBulk]
  | _ => simp [Rows.uptoBulk]
theorem bulk_len {H : Type} (l : List (DataW H)) : l.length ≤ Rows.uptoBulkAll l := by
  induction l with
  | nil => exact Nat.zero_le _
  | cons d l ih => have := bulk_one d; rw [Rows.uptoBulkAll, List.length_cons]; omega
set_option maxRecDepth 100000 in
theorem open_nums_in {H : Type} {enc : TypeId × Value → H} {W : World} {cs : List Value} {x : DataW H × List MemPlace} {fuel : Nat}
    (hf : DataW.trod enc Try.prog W 0 (fun _ => true) true fuel 23 cs = some x) :
    ∃ (A : List Nat) (pa : Option Addr) (pb po pc : Nat), cs = [.slice pa A.length pc] ∧ NIn W pa pb po pc A ∧ A.length ≤ Rows.uptoBulk x.1 ∧ ∀ y ∈ A, y < 4294967296 := by
  rcases Deep.open_slice1 Try.underlying23 (by kernel_rfl) hf with ⟨rfl, rfl⟩ | ⟨a, len, cap, mm, nn, V, D, Pl, rfl, _, hl, hm, hmm, rfl, hel⟩
  · exact ⟨[], none, 0, 0, 0, rfl, ⟨⟨fun e => absurd rfl e, fun j s hj => by simp at hj⟩, fun _ => ⟨rfl, rfl⟩⟩, Nat.zero_le _, fun y hy => by cases hy⟩
  · have hmc : mm = cap := by simpa using hmm
    subst hmc
    have hbk := bulk_len ((List.range len).map D)
    rw [List.length_map, List.length_range] at hbk
    simp only [Rows.uptoBulk]
    obtain ⟨T, hT⟩ := Deep.choose_lt (α := Nat) (n := len) (p := fun i t => W.cell? (a.add i) = some (.int .u32 t) ∧ t < 4294967296) (fun i hi => by
        obtain ⟨h1, h2⟩ := hel i (by omega)
        obtain ⟨i0, e0, _, w0⟩ := DataW.trod_int Try.underlying24 h2
        simp only [List.cons.injEq, and_true] at e0
        obtain ⟨k0, rfl, hk0⟩ := u32_nat w0
        exact ⟨k0, by rw [h1, e0], hk0⟩)
    have hlen : ((List.range len).map T).length = len := by simp
    have hall : ∀ y ∈ (List.range len).map T, y < 4294967296 := fun y hy => by
      obtain ⟨i, hi, rfl⟩ := List.mem_map.1 hy
      exact (hT i (List.mem_range.1 hi)).2
    by_cases h0 : len = 0
    · subst h0
      exact ⟨[], some a, 0, 0, mm, rfl, ⟨⟨fun e => absurd rfl e, fun j s hj => by simp at hj⟩, fun e => by cases e⟩, Nat.zero_le _, fun y hy => by cases hy⟩
    · have hc0 := (hT 0 (by omega)).1
      obtain ⟨b, off, spot⟩ := a
      have hspot : spot = none := by simpa [Addr.add] using World.cell?_spot hc0
      subst hspot
      have hbl : b < W.heap.size := by simpa [Addr.add] using World.block_lt_of_cell? _ _ hc0
      refine ⟨(List.range len).map T, some ⟨b, off, none⟩, b, off, mm, by rw [hlen], ⟨⟨fun _ => ⟨rfl, hbl⟩, ?_⟩, fun e => by cases e⟩, by rw [hlen]; omega, hall⟩
      intro k t hk
      have hk1 : k < len := by
        have := (List.getElem?_eq_some_iff.1 hk).1
        omega
      have hkt : t = T k := by
        rw [List.getElem?_map, List.getElem?_range hk1] at hk
        simpa using hk.symm
      subst hkt
      have := (hT k hk1).1
      rw [Addr.add_mid] at this
      exact this
end Go.Proofs.Ytneopkhkkfckcaa
