/- free: a plan that is being made: loosen, takeSpare. -/
import Derived.Test.YtbpoklkaffaleaaEI
namespace Go.Proofs.Ytbpoklkaffaleaa
open Go.RowKit Go.Maps

/-- Free numbers that can be taken, each with the place of its batch. -/
structure SpRow (w : World) (pa : Option Addr) (pb po : Nat) (S : List (Nat × Nat)) : Prop where
  place : S ≠ [] → pa = some ⟨pb, po, none⟩ ∧ pb < w.heap.size
  cells : ∀ (j : Nat) (x : Nat × Nat), S[j]? = some x → w.cell? ⟨pb, po + j * 2, none⟩ = some (.int .u32 (x.1 : Int)) ∧ w.cell? ⟨pb, po + j * 2 + 1, none⟩ = some (.int .i64 (x.2 : Int))
theorem SpRow.fr {w w' : World} {K : Nat → Prop} {pa : Option Addr} {pb po : Nat} {S : List (Nat × Nat)} (h : SpRow w pa pb po S) (f : Fr K w w') (hb : S ≠ [] → ¬ K pb) : SpRow w' pa pb po S :=
  ⟨fun e => ⟨(h.place e).1, Nat.lt_of_lt_of_le (h.place e).2 f.size⟩, fun j x hx => by
    have he : S ≠ [] := by intro e; rw [e] at hx; simp at hx
    obtain ⟨h1, h2⟩ := h.cells j x hx
    exact ⟨(f.cell (h.place he).2 (hb he)).trans h1, (f.cell (h.place he).2 (hb he)).trans h2⟩⟩
structure Mk where
  ca : Option Addr
  cc : Nat
  cl : Nat
  sa : Option Addr
  sb : Nat
  so : Nat
  sc : Nat
  S : List (Nat × Nat)
  opened : Nat
  lb : Nat
  n : Nat
  D : SetD
  en : Nat
  mo : Nat
def Mk.cells (M : Mk) : Array Value := #[.slice M.ca M.cl M.cc, .slice M.sa M.S.length M.sc, .int .i64 (M.opened : Int), .map (some M.lb), .int .u32 (M.en : Int), .int .u32 (M.mo : Int)]
/-- A plan that is being made stands at mb; it was begun since w. -/
structure MkAt (w W : World) (mb : Nat) (M : Mk) : Prop where
  hm : W.heap[mb]? = some (.cells M.cells 86 (0, 0))
  set : SetAt W M.lb M.n M.D
  sp : SpRow W M.sa M.sb M.so M.S
  ap : M.S ≠ [] → M.sb ≠ mb ∧ M.sb ≠ M.lb
  base : Same w W
  ge : w.heap.size ≤ mb ∧ w.heap.size ≤ M.lb
  bn : M.n ≤ 500000
  vs : ∀ x ∈ M.S, x.1 < 4294967296
  sc : M.S.length ≤ M.sc
  scm : 0 ≤ M.sc
theorem MkAt.ne {w W : World} {mb : Nat} {M : Mk} (h : MkAt w W mb M) : mb ≠ M.lb := fun e => by
  obtain ⟨es, cl, h1, _⟩ := h.set
  rw [← e, h.hm] at h1
  cases h1
theorem MkAt.same {w W W' : World} {mb : Nat} {M : Mk} (h : MkAt w W mb M) (s : Same W W') : MkAt w W' mb M :=
  ⟨(s.block _ (lt_of_heap h.hm) (fun f => f)).trans h.hm, h.set.fr s (fun f => f), h.sp.fr s (fun _ f => f), h.ap, h.base.trans s, h.ge, h.bn, h.vs, h.sc, h.scm⟩
/-- The loose numbers change, and nothing else. -/
theorem MkAt.loose {w W W' : World} {mb m' : Nat} {M : Mk} {D' : SetD} (h : MkAt w W mb M) (f : Fr (fun k => k = M.lb) W W') (s : SetAt W' M.lb m' D') (hb : m' ≤ 500000) : MkAt w W' mb { M with n := m', D := D' } :=
  ⟨(f.block _ (lt_of_heap h.hm) h.ne).trans h.hm, s, h.sp.fr f (fun e => (h.ap e).2), h.ap, Fr.trans h.base f (fun k hk e => by have := h.ge.2; omega), h.ge, hb, h.vs, h.sc, h.scm⟩
theorem MkAt.cell {w W : World} {mb : Nat} {M : Mk} (h : MkAt w W mb M) : W.cell? ⟨mb, 0, none⟩ = some (.slice M.ca M.cl M.cc) ∧ W.cell? ⟨mb, 1, none⟩ = some (.slice M.sa M.S.length M.sc) ∧ W.cell? ⟨mb, 2, none⟩ = some (.int .i64 (M.opened : Int)) ∧ W.cell? ⟨mb, 3, none⟩ = some (.map (some M.lb)) ∧ W.cell? ⟨mb, 4, none⟩ = some (.int .u32 (M.en : Int)) ∧ W.cell? ⟨mb, 5, none⟩ = some (.int .u32 (M.mo : Int)) :=
  ⟨(cell_of_row _ _ _ _ _ _ h.hm).trans rfl, (cell_of_row _ _ _ _ _ _ h.hm).trans rfl, (cell_of_row _ _ _ _ _ _ h.hm).trans rfl, (cell_of_row _ _ _ _ _ _ h.hm).trans rfl, (cell_of_row _ _ _ _ _ _ h.hm).trans rfl, (cell_of_row _ _ _ _ _ _ h.hm).trans rfl⟩
theorem MkAt.frozen {w W : World} {mb : Nat} {M : Mk} (h : MkAt w W mb M) (o : Nat) : W.frozen? ⟨mb, o, none⟩ = false := by simp [World.frozen?, h.hm]
def loD (D : SetD) (ns : List Nat) : SetD := ns.foldl putN D
set_option maxRecDepth 100000 in
set_option maxHeartbeats 1000000 in
theorem loosen_calls {w0 w : World} {mb pb po cp : Nat} {M : Mk} {pa : Option Addr} {ns : List Nat} (h : MkAt w0 w mb M) (hr : NRow w pa pb po ns) (hn : ns.length ≤ 1000) (hb : M.n + ns.length ≤ 500000) (hns : ∀ x ∈ ns, x < 4294967296) :
    Calls Try.prog 51 #[.pointer (some ⟨mb, 0, none⟩), .slice pa ns.length cp] w fun e w' => e = .returned (.tuple #[]) ∧ MkAt w0 w' mb { M with n := M.n + ns.length, D := loD M.D ns } ∧ Fr (fun k => k = M.lb) w w' := by
  have HH : Hid (MkAt w0 w mb M) := h
  have HR : Hid (∀ W, Fr (fun k => k = M.lb) w W → ∀ (j x : Nat), ns[j]? = some x → (pa = some ⟨pb, po, none⟩) ∧ W.cell? ⟨pb, po + j, none⟩ = some (.int .u32 (x : Int))) := fun W f j x hx => by
    have he : ns ≠ [] := by intro e; rw [e] at hx; simp at hx
    exact ⟨(hr.place he).1, (f.cell (hr.place he).2 (hr.neSet h.set he)).trans (hr.cells j x hx)⟩
  have HC : Hid (∀ W, Fr (fun k => k = M.lb) w W → W.cell? ⟨mb, 3, none⟩ = some (.map (some M.lb))) := fun W f => (f.cell (lt_of_heap h.hm) h.ne).trans h.cell.2.2.2.1
  have HNS : Hid (∀ x ∈ ns, x < 4294967296) := hns
  obtain ⟨n, hnn⟩ : ∃ n, n = ns.length := ⟨_, rfl⟩
  rw [← hnn] at hn hb ⊢
  have HN : Hid (n = ns.length) := hnn
  have HB : Hid (M.n + n ≤ 500000) := hb
  clear h hr hns hnn hb
  go_enter Try.func51, Try.ntmps51
  go_wp2_with fail
  go_loopg [8] n (fun g iv wr => ∃ (k : Nat) (D' : SetD), iv = .int .i64 (k : Int) ∧ k ≤ n ∧ g = n - k ∧ Hid (loD M.D ns = loD D' (ns.drop k)) ∧ Hid (SetAt wr M.lb (M.n + k) D') ∧ Hid (Fr (fun k => k = M.lb) w wr))
  case atStart => exact ⟨0, M.D, rfl, by omega, rfl, rfl, HH.out.set, Fr.refl _ w⟩
  case round =>
    obtain ⟨k, D', rfl, hk, hg, HI, HS, HF⟩ := hrel
    by_cases hgo : k < n
    · obtain ⟨a, hx⟩ : ∃ x, ns[k]? = some x := ⟨_, List.getElem?_eq_getElem (by rw [← HN.out]; exact hgo)⟩
      obtain ⟨hpa, hc⟩ := HR.out _ HF.out k a hx
      subst hpa
      have c3 := HC.out _ HF.out
      have HKY : Hid (keyOf Try.prog 25 (.int .u32 (a : Int)) = some (.int .u32 (a : Int))) := ukeyOf (HNS.out a (List.mem_of_getElem? hx))
      have hdrop : ns.drop k = a :: ns.drop (k + 1) := by
        have hl : k < ns.length := by rw [← HN.out]; exact hgo
        have e : ns[k] = a := by rw [List.getElem?_eq_getElem hl] at hx; exact Option.some.inj hx
        rw [List.drop_eq_getElem_cons hl, e]
      have HI2 : Hid (loD M.D ns = loD (putN D' a) (ns.drop (k + 1))) := by show _ = _; rw [HI.out, hdrop]; rfl
      have hmx : M.n + k < maxLen := by have := HB.out; unfold maxLen; omega
      clear hx hdrop HI
      go_wp2_with (at_mapUpdate; refine wpList_mapUpdate_in _ rfl _ _ _ 46 rfl 25 98 ukey Try.underlying46 (unitElem (H := Unit)) M.lb (M.n + k) D' rfl HS.out hmx _ _ _ rfl rfl HKY.out (.agg []) [] unitElem_mk ?_; intro W2 o2 t2)
      have HS2 : Hid (SetAt W2 M.lb (M.n + (k + 1)) (putN D' a)) := o2
      have HF2 : Hid (Fr (fun k => k = M.lb) w W2) := Fr.grown HF.out t2.grown (fun k e _ => by cases e; rfl)
      clear o2 t2
      go_wp2_with fail
      go_roundg (n - (k + 1))
      case measure => omega
      case rel => exact ⟨k + 1, putN D' a, by go_num, by omega, rfl, HI2, HS2, HF2⟩
    · have hd : ns.drop k = [] := List.drop_eq_nil_of_le (by rw [← HN.out]; omega)
      have hr : Hid (loD M.D ns = D') := by show _ = _; rw [HI.out, hd]; rfl
      have hkn : k = n := by omega
      subst hkn
      go_wp2_with fail
      go_end0
      exact ⟨rfl, by rw [hr.out]; exact HH.out.loose HF.out HS.out HB.out, HF.out⟩
end Go.Proofs.Ytbpoklkaffaleaa
