/-
  Words in rows; one word more, and the old row's cells are as they were.
-/
import Derived.Test.YtnoicjpmfchhiaaDoorSRC
import Derived.Deep.RegionHeld3
import Derived.Deep.RegionLaw
import Derived.Deep.DrawnRows
namespace Go.Proofs.YtnoicjpmfchhiaaDoor
open Go.RowKit

def ucells (l : List UInt32) : List Value := l.map fun x => .int .u32 x.toNat
theorem ucells_append (a b : List UInt32) : ucells (a ++ b) = ucells a ++ ucells b := by simp [ucells]
theorem ucells_length (a : List UInt32) : (ucells a).length = a.length := by simp [ucells]
theorem Tryd.infoU32 : (Tryd.prog.info? 27).map (fun i => (i.zero, i.size, i.bytes)) = some (some (.int .u32 0), 1, 4) := by kernel_rfl
/-- Words in a row. -/
def UAt (w : World) (g o : Nat) (l : List UInt32) : Prop := ∀ (j : Nat) (x : UInt32), l[j]? = some x → w.cell? ⟨g, o + j, none⟩ = some (.int .u32 x.toNat)
theorem UAt.same {w w' : World} {g o : Nat} {l : List UInt32} (h : UAt w g o l) (s : Same w w') : UAt w' g o l := fun j x hx => s.keep (h j x hx)
theorem UAt.get {w : World} {g o : Nat} {l : List UInt32} (h : UAt w g o l) (j : Nat) (hj : j < l.length) : w.cell? ⟨g, o + j, none⟩ = some (.int .u32 (l.getD j 0).toNat) := h j _ (by rw [List.getD_eq_getElem?_getD, List.getElem?_eq_getElem hj]; rfl)
theorem own_drew {w : World} {B n : Nat} {e : TypeId} {v : Value} {xs : List Value} (h : w.ownsRow B e 1 v n xs) : w.drew.ownsRow B e 1 v n xs := h
theorem own_uat {w : World} {B g cap n : Nat} {l : List UInt32} (h : w.ownsRow B 27 1 (.slice (some ⟨g, 0, none⟩) n cap) n (ucells l)) : UAt w g 0 l := by
  intro j x hx
  have := h.cells (g := g) rfl j (.int .u32 x.toNat) (by simp only [ucells, List.getElem?_map, hx]; rfl)
  rw [Addr.add_mid] at this
  exact this
/-- Bytes in a row. -/
def BAt8 (w : World) (g o : Nat) (l : List UInt8) : Prop := ∀ (j : Nat) (x : UInt8), l[j]? = some x → w.cell? ⟨g, o + j, none⟩ = some (.int .u8 x.toNat)
theorem BAt8.same {w w' : World} {g o : Nat} {l : List UInt8} (h : BAt8 w g o l) (s : Same w w') : BAt8 w' g o l := fun j x hx => s.keep (h j x hx)

theorem run_append_kept (w : World) (ty : TypeId) (B g n cap : Nat) (L : List UInt32) (hown : w.ownsRow B 27 1 (.slice (some ⟨g, 0, none⟩) n cap) n (ucells L)) (ad : Addr) (c : Nat) (x : UInt32) (hx : w.cell? ad = some (.int .u32 x.toNat)) (hb : n + 1 ≤ 1099511627776) (hbase : B ≤ w.heap.size) :
    ∃ g' cap' w', (Builtin.append_ #[23, 23] ty #[.slice (some ⟨g, 0, none⟩) n cap, .slice (some ad) 1 c]).run Tryd.prog w = .ok (.slice (some ⟨g', 0, none⟩) (n + 1) cap') w' ∧ w'.ownsRow B 27 1 (.slice (some ⟨g', 0, none⟩) (n + 1) cap') (n + 1) (ucells (L ++ [x])) ∧ w.grownBy w' (some g) ∧ UAt w' g 0 L := by
  obtain ⟨i0, hi, hi0, hi1, hi2⟩ := info_parts Tryd.infoU32
  have hnews : ∀ j u, [Value.int .u32 x.toNat][j]? = some u → w.cell? (ad.add j) = some u := by
    intro j u hu
    cases j with
    | zero => simp at hu; subst hu; have : ad.add 0 = ad := by unfold Addr.add; split <;> simp_all
              rw [this]; exact hx
    | succ j => simp at hu
  have h1 : ∀ u ∈ [Value.int .u32 x.toNat], u.oneCell' = true := by intro u hu; simp at hu; subst hu; rfl
  have hmx : n + 1 ≤ maxLen := by unfold maxLen; omega
  obtain ⟨g', cap', w', hr, ho, hg, _, _⟩ := run_append_lies (P := Tryd.prog) w 23 ty B 27 i0 (.int .u32 0) 1 4 Tryd.underlying23 hi hi0 hi1 hi2 rfl (by decide) _ n (ucells L) hown ad 1 c [.int .u32 x.toNat] rfl hnews h1 (by decide) hmx (by omega) hbase w.heap.size rfl
  refine ⟨g', cap', w', hr, by rw [ucells_append]; exact ho, hg, ?_⟩
  have hu := own_uat hown
  obtain ⟨hlen, hn | ⟨g2, cap2, cur, hv, _, hh, hnc, hcm, hcs, htk⟩⟩ := hown
  · exact absurd hn.1 (by simp)
  · injection hv with e1 _ e3
    injection e1 with e1
    injection e1 with e1
    subst e1 e3
    by_cases hroom : n + 1 ≤ cap
    · have hr2 := run_append_room (P := Tryd.prog) w 23 ty 27 i0 Tryd.underlying23 hi g n cap cur hh ad 1 c [.int .u32 x.toNat] (by rw [hi1]; rfl) hnews h1 hroom (by rw [hi1]; simp; omega)
      rw [hr] at hr2
      injection hr2 with e _
      injection e with e _ _
      injection e with e
      injection e with e
      subst e
      have := own_uat (l := L ++ [x]) (by rw [ucells_append]; exact ho)
      intro j y hy
      exact this j y (by rw [List.getElem?_append_left (List.getElem?_eq_some_iff.1 hy).1]; exact hy)
    · have holds : ∀ j v, (ucells L)[j]? = some v → w.cell? ((⟨g, 0, none⟩ : Addr).add j) = some v := by
        intro j v hv
        rw [ucells, List.getElem?_map, Option.map_eq_some_iff] at hv
        obtain ⟨y, hy, rfl⟩ := hv
        rw [Addr.add_mid]
        exact hu j y hy
      have hr2 := run_append_grow (P := Tryd.prog) w 23 ty 27 i0 (.int .u32 0) Tryd.underlying23 hi hi0 ⟨g, 0, none⟩ n cap (ucells L) (by rw [hi1]; exact hlen) holds ad 1 c [.int .u32 x.toNat] (by rw [hi1]; rfl) hnews (by omega) (by omega) (growslice_fits (by omega) (by rw [hi2]; omega))
      rw [hr] at hr2
      injection hr2 with _ e
      subst e
      have hlt : g < w.drew.heap.size := lt_of_heap hh
      intro j y hy
      rw [World.cell?_of_block (w := w) (heap_alloc_old w.drew _ hlt)]
      exact hu j y hy
theorem wp_append_kept (w : World) {o : Oper} {a : Act} {K : Act → World → Prop} {Q : Exit → Act → World → Prop} (sl y : Operand)
    (ho : o.op = .call { callee := .builtin .append, args := #[sl, y], argTypes := #[23, 23] }) (B g n cap : Nat) (L : List UInt32) (hs : a.eval sl = .slice (some ⟨g, 0, none⟩) n cap) (hown : w.ownsRow B 27 1 (.slice (some ⟨g, 0, none⟩) n cap) n (ucells L))
    (ad : Addr) (c : Nat) (x : UInt32) (hy : a.eval y = .slice (some ad) 1 c) (hx : w.cell? ad = some (.int .u32 x.toNat)) (hb : n + 1 ≤ 1099511627776) (hbase : B ≤ w.heap.size)
    (hk : ∀ g' cap' w', w'.ownsRow B 27 1 (.slice (some ⟨g', 0, none⟩) (n + 1) cap') (n + 1) (ucells (L ++ [x])) → w.grownBy w' (some g) → UAt w' g 0 L → K (a.put o.dst (.slice (some ⟨g', 0, none⟩) (n + 1) cap')) w') : o.wp Tryd.prog a w K Q := by
  obtain ⟨g', cap', w', hr, h2, h3, h4⟩ := run_append_kept w o.type B g n cap L hown ad c x hx hb hbase
  unfold Oper.wp execOp
  simp only [ho, resolve, invoke, builtin, Sem.run_bind, Sem.run_pure, Result.andThen_ok, List.map_toArray, List.map_cons, List.map_nil, hs, hy, hr]
  exact hk g' cap' w' h2 h3 h4
theorem step_append_kept (w : World) {ops : Array Oper} {o : Oper} {a : Act} {K : Act → World → Prop} {Q : Exit → Act → World → Prop} {E : Prop} (hgd : o.guard = none) (sl y : Operand)
    (ho : o.op = .call { callee := .builtin .append, args := #[sl, y], argTypes := #[23, 23] }) (B g n cap : Nat) (L : List UInt32) (hs : a.eval sl = .slice (some ⟨g, 0, none⟩) n cap) (hown : w.ownsRow B 27 1 (.slice (some ⟨g, 0, none⟩) n cap) n (ucells L))
    (ad : Addr) (c : Nat) (x : UInt32) (hy : a.eval y = .slice (some ad) 1 c) (hx : w.cell? ad = some (.int .u32 x.toNat)) (hb : n + 1 ≤ 1099511627776) (hbase : B ≤ w.heap.size)
    (hk : ∀ g' cap' w', w'.ownsRow B 27 1 (.slice (some ⟨g', 0, none⟩) (n + 1) cap') (n + 1) (ucells (L ++ [x])) → w.grownBy w' (some g) → UAt w' g 0 L → K (a.put o.dst (.slice (some ⟨g', 0, none⟩) (n + 1) cap')) w') :
    if Region.wanted o (yielded ops a.tmps) = true then Oper.wp Tryd.prog o a w K Q else E := by
  rw [if_pos (by simp [Region.wanted, hgd])]
  exact wp_append_kept w sl y ho B g n cap L hs hown ad c x hy hx hb hbase hk
end Go.Proofs.YtnoicjpmfchhiaaDoor
