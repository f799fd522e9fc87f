/- free: a plan that is being made: loosen, takeSpare. -/
import Derived.Test.YtajbifblbmlffaaEI
namespace Go.Proofs.Ytajbifblbmlffaa
open Go.RowKit Go.Maps

/-- Free numbers that can be taken, each with the place of its batch. -/
structure SpRow (w : World) (pa : Option Addr) (pb po : Nat) (S : List (Nat × Nat)) : Prop where
  place : S ≠ [] → pa = some ⟨pb, po, none⟩ ∧ pb < w.heap.size
  cells : ∀ (j : Nat) (x : Nat × Nat), S[j]? = some x → w.cell? ⟨pb, po + j * 2, none⟩ = some (.int .u32 (x.1 : Int)) ∧ w.cell? ⟨pb, po + j * 2 + 1, none⟩ = some (.int .i64 (x.2 : Int))
theorem SpRow.fr {w w' : World} {K : Nat → Prop} {pa : Option Addr} {pb po : Nat} {S : List (Nat × Nat)} (h : SpRow w pa pb po S) (f : Fr K w w') (hb : S ≠ [] → ¬ K pb) : SpRow w' pa pb po S :=
  ⟨fun e => ⟨(h.place e).1, Nat.lt_of_lt_of_le (h.place e).2 f.size⟩, fun j x hx => by
    have he : S ≠ [] := by intro e; rw [e] at hx; simp at hx
    obtain ⟨h1, h2⟩ := h.cells j x hx
    exact ⟨(f.cell (h.place he).2 (hb he)).trans h1, (f.cell (h.place he).2 (hb he)).trans h2⟩⟩
structure Mk where
  ca : Option Addr
  cc : Nat
  cl : Nat
  sa : Option Addr
  sb : Nat
  so : Nat
  sc : Nat
  S : List (Nat × Nat)
  opened : Nat
  lb : Nat
  n : Nat
  D : SetD
  en : Nat
  mo : Nat
def Mk.cells (M : Mk) : Array Value := #[.slice M.ca M.cl M.cc, .slice M.sa M.S.length M.sc, .int .i64 (M.opened : Int), .map (some M.lb), .int .u32 (M.en : Int), .int .u32 (M.mo : Int)]
/-- A plan that is being made stands at mb; it was begun since w. -/
structure MkAt (w W : World) (mb : Nat) (M : Mk) : Prop where
  hm : W.heap[mb]? = some (.cells M.cells 101 (0, 0))
  set : SetAt W M.lb M.n M.D
  sp : SpRow W M.sa M.sb M.so M.S
  ap : M.S ≠ [] → M.sb ≠ mb ∧ M.sb ≠ M.lb
  base : Same w W
  ge : w.heap.size ≤ mb ∧ w.heap.size ≤ M.lb
  bn : M.n ≤ 500000
  vs : ∀ x ∈ M.S, x.1 < 4294967296
  sc : M.S.length ≤ M.sc
  scm : 0 ≤ M.sc
theorem MkAt.ne {w W : World} {mb : Nat} {M : Mk} (h : MkAt w W mb M) : mb ≠ M.lb := fun e => by
  obtain ⟨es, cl, h1, _⟩ := h.set
  rw [← e, h.hm] at h1
  cases h1
theorem MkAt.same {w W W' : World} {mb : Nat} {M : Mk} (h : MkAt w W mb M) (s : Same W W') : MkAt w W' mb M :=
  ⟨(s.block _ (lt_of_heap h.hm) (fun f => f)).trans h.hm, h.set.fr s (fun f => f), h.sp.fr s (fun _ f => f), h.ap, h.base.trans s, h.ge, h.bn, h.vs, h.sc, h.scm⟩
/-- The loose numbers change, and nothing else. -/
theorem MkAt.loose {w W W' : World} {mb m' : Nat} {M : Mk} {D' : SetD} (h : MkAt w W mb M) (f : Fr (fun k => k = M.lb) W W') (s : SetAt W' M.lb m' D') (hb : m' ≤ 500000) : MkAt w W' mb { M with n := m', D := D' } :=
  ⟨(f.block _ (lt_of_heap h.hm) h.ne).trans h.hm, s, h.sp.fr f (fun e => (h.ap e).2), h.ap, Fr.trans h.base f (fun k hk e => by have := h.ge.2; omega), h.ge, hb, h.vs, h.sc, h.scm⟩
theorem MkAt.cell {w W : World} {mb : Nat} {M : Mk} (h : MkAt w W mb M) : W.cell? ⟨mb, 0, none⟩ = some (.slice M.ca M.cl M.cc) ∧ W.cell? ⟨mb, 1, none⟩ = some (.slice M.sa M.S.length M.sc) ∧ W.cell? ⟨mb, 2, none⟩ = some (.int .i64 (M.opened : Int)) ∧ W.cell? ⟨mb, 3, none⟩ = some (.map (some M.lb)) ∧ W.cell? ⟨mb, 4, none⟩ = some (.int .u32 (M.en : Int)) ∧ W.cell? ⟨mb, 5, none⟩ = some (.int .u32 (M.mo : Int)) :=
  ⟨(cell_of_row _ _ _ _ _ _ h.hm).trans rfl, (cell_of_row _ _ _ _ _ _ h.hm).trans rfl, (cell_of_row _ _ _ _ _ _ h.hm).trans rfl, (cell_of_row _ _ _ _ _ _ h.hm).trans rfl, (cell_of_row _ _ _ _ _ _ h.hm).trans rfl, (cell_of_row _ _ _ _ _ _ h.hm).trans rfl⟩
theorem MkAt.frozen {w W : World} {mb : Nat} {M : Mk} (h : MkAt w W mb M) (o : Nat) : W.frozen? ⟨mb, o, none⟩ = false := by simp [World.frozen?, h.hm]
def loD (D : SetD) (ns : List Nat) : SetD := ns.foldl putN D
set_option maxRecDepth 100000 in
set_option maxHeartbeats 1000000 in
theorem loosen_calls {w0 w : World} {mb pb po cp : Nat} {M : Mk} {pa : Option Addr} {ns : List Nat} (h : MkAt w0 w mb M) (hr : NRow w pa pb po ns) (hn : ns.length ≤ 1000) (hb : M.n + ns.length ≤ 500000) (hns : ∀ x ∈ ns, x < 4294967296) :
    Calls Try.prog 46 #[.pointer (some ⟨mb, 0, none⟩), .slice pa ns.length cp] w fun e w' => e = .returned (.tuple #[]) ∧ MkAt w0 w' mb { M with n := M.n + ns.length, D := loD M.D ns } ∧ Fr (fun k => k = M.lb) w w' := by
  have HH : Hid (MkAt w0 w mb M) := h
  have HR : Hid (∀ W, Fr (fun k => k = M.lb) w W → ∀ (j x : Nat), ns[j]? = some x → (pa = some ⟨pb, po, none⟩) ∧ W.cell? ⟨pb, po + j, none⟩ = some (.int .u32 (x : Int))) := fun W f j x hx => by
    have he : ns ≠ [] := by intro e; rw [e] at hx; simp at hx
    exact ⟨(hr.place he).1, (f.cell (hr.place he).2 (hr.neSet h.set he)).trans (hr.cells j x hx)⟩
  have HC : Hid (∀ W, Fr (fun k => k = M.lb) w W → W.cell? ⟨mb, 3, none⟩ = some (.map (some M.lb))) := fun W f => (f.cell (lt_of_heap h.hm) h.ne).trans h.cell.2.2.2.1
  have HNS : Hid (∀ x ∈ ns, x < 4294967296) := hns
  obtain ⟨n, hnn⟩ : ∃ n, n = ns.length := ⟨_, rfl⟩
  rw [← hnn] at hn hb ⊢
  have HN : Hid (n = ns.length) := hnn
  have HB : Hid (M.n + n ≤ 500000) := hb
  clear h hr hns hnn hb
  go_enter Try.func46, Try.ntmps46
  go_wp2_with fail
  go_loopg [8] n (fun g iv wr => ∃ (k : Nat) (D' : SetD), iv = .int .i64 (k : Int) ∧ k ≤ n ∧ g = n - k ∧ Hid (loD M.D ns = loD D' (ns.drop k)) ∧ Hid (SetAt wr M.lb (M.n + k) D') ∧ Hid (Fr (fun k => k = M.lb) w wr))
  case atStart => exact ⟨0, M.D, rfl, by omega, rfl, rfl, HH.out.set, Fr.refl _ w⟩
  case round =>
    obtain ⟨k, D', rfl, hk, hg, HI, HS, HF⟩ := hrel
    by_cases hgo : k < n
    · obtain ⟨a, hx⟩ : ∃ x, ns[k]? = some x := ⟨_, List.getElem?_eq_getElem (by rw [← HN.out]; exact hgo)⟩
      obtain ⟨hpa, hc⟩ := HR.out _ HF.out k a hx
      subst hpa
      have c3 := HC.out _ HF.out
      have HKY : Hid (keyOf Try.prog 28 (.int .u32 (a : Int)) = some (.int .u32 (a : Int))) := ukeyOf (HNS.out a (List.mem_of_getElem? hx))
      have hdrop : ns.drop k = a :: ns.drop (k + 1) := by
        have hl : k < ns.length := by rw [← HN.out]; exact hgo
        have e : ns[k] = a := by rw [List.getElem?_eq_getElem hl] at hx; exact Option.some.inj hx
        rw [List.drop_eq_getElem_cons hl, e]
      have HI2 : Hid (loD M.D ns = loD (putN D' a) (ns.drop (k + 1))) := by show _ = _; rw [HI.out, hdrop]; rfl
      have hmx : M.n + k < maxLen := by have := HB.out; unfold maxLen; omega
      clear hx hdrop HI
      go_wp2_with (at_mapUpdate; refine wpList_mapUpdate_in _ rfl _ _ _ 46 rfl 28 108 ukey Try.underlying46 (unitElem (H := Unit)) M.lb (M.n + k) D' rfl HS.out hmx _ _ _ rfl rfl HKY.out (.agg []) [] unitElem_mk ?_; intro W2 o2 t2)
      have HS2 : Hid (SetAt W2 M.lb (M.n + (k + 1)) (putN D' a)) := o2
      have HF2 : Hid (Fr (fun k => k = M.lb) w W2) := Fr.grown HF.out t2.grown (fun k e _ => by cases e; rfl)
      clear o2 t2
      go_wp2_with fail
      go_roundg (n - (k + 1))
      case measure => omega
      case rel => exact ⟨k + 1, putN D' a, by go_num, by omega, rfl, HI2, HS2, HF2⟩
    · have hd : ns.drop k = [] := List.drop_eq_nil_of_le (by rw [← HN.out]; omega)
      have hr : Hid (loD M.D ns = D') := by show _ = _; rw [HI.out, hd]; rfl
      have hkn : k = n := by omega
      subst hkn
      go_wp2_with fail
      go_end0
      exact ⟨rfl, by rw [hr.out]; exact HH.out.loose HF.out HS.out HB.out, HF.out⟩
end Go.Proofs.Ytajbifblbmlffaa
namespace Go.Proofs.Ytajbifblbmlffaa
open Go.RowKit Go.Maps

theorem six_set1 {w : World} {b : Nat} {x0 x1 x2 x3 x4 x5 : Value} {t : TypeId} (h : w.heap[b]? = some (.cells #[x0, x1, x2, x3, x4, x5] t (0, 0))) (v : Value) : (w.setCell ⟨b, 1, none⟩ v).heap[b]? = some (.cells #[x0, v, x2, x3, x4, x5] t (0, 0)) := by
  simp [World.setCell, Array.getElem?_modify, h]
theorem six_set2 {w : World} {b : Nat} {x0 x1 x2 x3 x4 x5 : Value} {t : TypeId} (h : w.heap[b]? = some (.cells #[x0, x1, x2, x3, x4, x5] t (0, 0))) (v : Value) : (w.setCell ⟨b, 2, none⟩ v).heap[b]? = some (.cells #[x0, x1, v, x3, x4, x5] t (0, 0)) := by
  simp [World.setCell, Array.getElem?_modify, h]
/-- The spares change, and nothing else. -/
theorem MkAt.spare {w W : World} {mb : Nat} {M : Mk} (h : MkAt w W mb M) (sa : Option Addr) (so sc : Nat) (S : List (Nat × Nat)) (hsub : ∀ x ∈ S, x ∈ M.S) (hsp : SpRow W sa M.sb so S) (hsc : S.length ≤ sc) (_hsm : sc ≤ M.sc) :
    MkAt w (W.setCell ⟨mb, 1, none⟩ (.slice sa S.length sc)) mb { M with sa := sa, so := so, sc := sc, S := S } := by
  have f : Fr (fun k => k = mb) W (W.setCell ⟨mb, 1, none⟩ (.slice sa S.length sc)) := (Fr.refl (fun k => k = mb) _).setCell (p := ⟨mb, 1, none⟩) (fun _ => rfl) _
  have he : S ≠ [] → M.S ≠ [] := fun e e2 => by
    obtain ⟨x, xs, rfl⟩ := List.exists_cons_of_ne_nil e
    have := hsub x (List.mem_cons_self ..)
    rw [e2] at this
    cases this
  exact ⟨six_set1 h.hm _, h.set.fr f (fun e => h.ne e.symm), hsp.fr f (fun e => (h.ap (he e)).1), fun e => h.ap (he e), Fr.trans h.base f (fun k hk e => by have := h.ge.1; omega), h.ge, h.bn, fun x hx => h.vs x (hsub x hx), hsc, Nat.zero_le _⟩
set_option maxRecDepth 100000 in
set_option maxHeartbeats 1000000 in
theorem takeSpare_calls {w0 w : World} {mb no bt : Nat} {M : Mk} {S' : List (Nat × Nat)} (h : MkAt w0 w mb M) (hS : M.S = (no, bt) :: S') :
    Calls Try.prog 58 #[.pointer (some ⟨mb, 0, none⟩)] w fun e w' => e = .returned (.int .u32 (no : Int)) ∧ (∃ sa so sc, MkAt w0 w' mb { M with sa := sa, so := so, sc := sc, S := S', D := delN M.D no }) ∧ Fr (fun k => k = mb ∨ k = M.lb) w w' := by
  have HH : Hid (MkAt w0 w mb M) := h
  have hl : M.S.length = S'.length + 1 := by rw [hS]; rfl
  have HL : Hid (M.S.length = S'.length + 1 ∧ S'.length + 1 ≤ M.sc ∧ 0 ≤ M.sc) := ⟨hl, by rw [← hl]; exact h.sc, h.scm⟩
  have hne : M.S ≠ [] := by rw [hS]; simp
  obtain ⟨hpa, hlt⟩ := h.sp.place hne
  obtain ⟨q0, q1⟩ := h.sp.cells 0 (no, bt) (by rw [hS]; rfl)
  simp only [Nat.zero_mul, Nat.add_zero] at q0 q1
  obtain ⟨c0, c1, c2, c3, c4, c5⟩ := h.cell
  rw [hpa, hl] at c1
  have z1 := h.frozen 1
  have hlen1 : (0 : Int) < ((S'.length + 1 : Nat) : Int) := by omega
  have hsc1 : (1 : Int) ≤ ((S'.length + 1 : Nat) : Int) := by omega
  have HKY : Hid (keyOf Try.prog 28 (.int .u32 (no : Int)) = some (.int .u32 (no : Int))) := ukeyOf (h.vs (no, bt) (by rw [hS]; exact List.mem_cons_self ..))
  have hsub : ∀ x ∈ S', x ∈ M.S := fun x hx => by rw [hS]; exact List.mem_cons_of_mem _ hx
  by_cases hsc : M.sc = 1
  · have hS0 : S' = [] := List.eq_nil_of_length_eq_zero (by have := HL.out; omega)
    have HM1 : Hid (MkAt w0 (w.setCell ⟨mb, 1, none⟩ (.slice (some ⟨M.sb, M.so, none⟩) S'.length 0)) mb { M with sa := some ⟨M.sb, M.so, none⟩, so := M.so, sc := 0, S := S' }) := h.spare _ _ _ _ hsub ⟨fun e => absurd hS0 e, fun j x hx => by rw [hS0] at hx; simp at hx⟩ (by rw [hS0]; simp) (Nat.zero_le _)
    have HST : Hid (SetAt (w.setCell ⟨mb, 1, none⟩ (.slice (some ⟨M.sb, M.so, none⟩) S'.length 0)) M.lb M.n M.D) := HM1.out.set
    clear h hS hl hne hpa hlt hS0 hsub
    go_enter Try.func58, Try.ntmps58
    go_wp2_with (at_delete; refine wpList_delete_own _ rfl _ _ 46 28 rfl 108 ukey Try.underlying46 (unitElem (H := Unit)) M.lb M.n M.D rfl HST.out _ _ rfl HKY.out ?_; intro W1 o1 t1)
    have f1 : Fr (fun k => k = M.lb) _ W1 := Fr.grown (Fr.refl _ _) t1.grown (fun k e _ => by cases e; rfl)
    have HM2 : Hid (MkAt w0 W1 mb { M with sa := some ⟨M.sb, M.so, none⟩, so := M.so, sc := 0, S := S', D := delN M.D no }) := HM1.out.loose f1 o1 HM1.out.bn
    have HFF : Hid (Fr (fun k => k = mb ∨ k = M.lb) w W1) := Fr.trans ((Fr.refl (fun k => k = mb ∨ k = M.lb) w).setCell (p := ⟨mb, 1, none⟩) (fun _ => Or.inl rfl) _) (f1.mono (fun _ _ e => Or.inr e)) (fun _ _ e => e)
    clear f1 o1 t1
    go_wp2_with fail
    go_ret
    exact ⟨rfl, ⟨_, _, _, HM2.out⟩, HFF.out⟩
  · have hrow : SpRow w (some ⟨M.sb, M.so + 2, none⟩) M.sb (M.so + 2) S' := ⟨fun _ => ⟨rfl, hlt⟩, fun j x hx => by
      have := h.sp.cells (j + 1) x (by rw [hS]; exact hx)
      rw [show M.so + (j + 1) * 2 = M.so + 2 + j * 2 from by omega] at this
      exact this⟩
    have HM1 : Hid (MkAt w0 (w.setCell ⟨mb, 1, none⟩ (.slice (some ⟨M.sb, M.so + 2, none⟩) S'.length (M.sc - 1))) mb { M with sa := some ⟨M.sb, M.so + 2, none⟩, so := M.so + 2, sc := M.sc - 1, S := S' }) := h.spare _ _ _ _ hsub hrow (by have := HL.out; omega) (Nat.sub_le _ _)
    have HST : Hid (SetAt (w.setCell ⟨mb, 1, none⟩ (.slice (some ⟨M.sb, M.so + 2, none⟩) S'.length (M.sc - 1))) M.lb M.n M.D) := HM1.out.set
    clear h hS hl hne hpa hlt hsub hrow
    go_enter Try.func58, Try.ntmps58
    go_wp2_with (at_delete; refine wpList_delete_own _ rfl _ _ 46 28 rfl 108 ukey Try.underlying46 (unitElem (H := Unit)) M.lb M.n M.D rfl HST.out _ _ rfl HKY.out ?_; intro W1 o1 t1)
    have f1 : Fr (fun k => k = M.lb) _ W1 := Fr.grown (Fr.refl _ _) t1.grown (fun k e _ => by cases e; rfl)
    have HM2 : Hid (MkAt w0 W1 mb { M with sa := some ⟨M.sb, M.so + 2, none⟩, so := M.so + 2, sc := M.sc - 1, S := S', D := delN M.D no }) := HM1.out.loose f1 o1 HM1.out.bn
    have HFF : Hid (Fr (fun k => k = mb ∨ k = M.lb) w W1) := Fr.trans ((Fr.refl (fun k => k = mb ∨ k = M.lb) w).setCell (p := ⟨mb, 1, none⟩) (fun _ => Or.inl rfl) _) (f1.mono (fun _ _ e => Or.inr e)) (fun _ _ e => e)
    clear f1 o1 t1
    go_wp2_with fail
    go_ret
    exact ⟨rfl, ⟨_, _, _, HM2.out⟩, HFF.out⟩
end Go.Proofs.Ytajbifblbmlffaa
namespace Go.Proofs.Ytajbifblbmlffaa
open Go.RowKit Go.Maps

set_option maxRecDepth 100000 in
set_option maxHeartbeats 1000000 in
theorem open_batch {w0 w : World} {mb cb co : Nat} {M : Mk} {L : List Bt} {x : Bt} (h : MkAt w0 w mb M) (hch : BtRow w0 M.ca cb co L) (hcl : M.cl = L.length) (hx : L[M.opened]? = some x) (hlm : L.length ≤ 1000) (hb : M.n + 1 + x.ns.length ≤ 500000) :
    Calls Try.prog 57 #[.pointer (some ⟨mb, 0, none⟩)] w fun e w' => e = .returned (.tuple #[]) ∧ MkAt w0 w' mb { M with opened := M.opened + 1, n := M.n + 1 + x.ns.length, D := loD (loD M.D [x.pg]) x.ns } ∧ Fr (fun k => k = mb ∨ k = M.lb) w w' := by
  have HH : Hid (MkAt w0 w mb M) := h
  obtain ⟨e0, e1, e2⟩ := (hch.same h.base).cells _ _ hx
  obtain ⟨hpa, _⟩ := (hch.same h.base).place (by intro e; rw [e] at hx; simp at hx)
  obtain ⟨c0, c1, c2, c3, c4, c5⟩ := h.cell
  rw [hpa] at c0
  have hlt : M.opened < L.length := (List.getElem?_eq_some_iff.1 hx).1
  have hlt1 : (M.opened : Int) < (M.cl : Int) := by omega
  have hlt2 : M.opened < M.cl := by omega
  have HE : Hid (BtOk w x) := e2
  have HLT : Hid (M.opened < 1000) := by show _ < _; omega
  have HBN : Hid (M.n + 1 + x.ns.length ≤ 500000) := hb
  have sa : Same w (w.alloc (.cells #[.int .u32 0, .slice none 0 0] 53)) := (Fr.refl _ w).alloc _
  have c0a := sa.keep c0
  have c2a := sa.keep c2
  have e0a := sa.keep e0
  have e1a := sa.keep e1
  clear h hch hcl hx hpa hlt c1 c3 c4 c5 e2 hlm hb sa
  go_enter Try.func57, Try.ntmps57
  go_wp2_with fail
  go_region
  obtain ⟨X, hX⟩ : ∃ X, X = (w.alloc (.cells #[.int .u32 (x.pg : Int), .slice x.na x.ns.length x.nc] 53)).drew := ⟨_, rfl⟩
  have sX : Same w X := by rw [hX]; exact Fr.drew ((Fr.refl _ w).alloc _)
  have gX : X.heap[w.heap.size]? = some (.cells #[.int .u32 (x.pg : Int), .slice x.na x.ns.length x.nc] 53 (0, 0)) := by rw [hX]; exact heap_alloc_new w _
  rw [← hX]
  obtain ⟨bb, hbb⟩ : ∃ bb, bb = w.heap.size := ⟨_, rfl⟩
  rw [← hbb] at gX ⊢
  have HWX : Hid (Same w X) := sX
  have HX : Hid (MkAt w0 X mb M ∧ BtOk X x ∧ X.heap[bb]? = some (.cells #[.int .u32 (x.pg : Int), .slice x.na x.ns.length x.nc] 53 (0, 0)) ∧ bb ≠ M.lb) := ⟨HH.out.same sX, HE.out.same sX, gX, by have := HH.out.set.lt; omega⟩
  have b0 : X.cell? ⟨bb, 0, none⟩ = some (.int .u32 (x.pg : Int)) := (cell_of_row _ _ _ _ _ _ gX).trans rfl
  clear hX sX gX hbb c0 c2 e0 e1 c0a c2a e0a e1a HH HE hlt1 hlt2
  obtain ⟨Y, hY⟩ : ∃ Y, Y = X.alloc (.cells #[.int .u32 (x.pg : Int)] 28) := ⟨_, rfl⟩
  have sY : Same X Y := by rw [hY]; exact (Fr.refl _ X).alloc _
  have gY := heap_alloc_new X (.cells #[.int .u32 (x.pg : Int)] 28)
  rw [← hY] at gY
  have HWY : Hid (Same w Y) := HWX.out.trans sY
  have HY : Hid (MkAt w0 Y mb M ∧ BtOk Y x ∧ Y.heap[bb]? = some (.cells #[.int .u32 (x.pg : Int), .slice x.na x.ns.length x.nc] 53 (0, 0)) ∧ NRow Y (some ⟨X.heap.size, 0, none⟩) X.heap.size 0 [x.pg]) := ⟨HX.out.1.same sY, HX.out.2.1.same sY, (sY.block _ (lt_of_heap HX.out.2.2.1) (fun f => f)).trans HX.out.2.2.1, nrow_one _ _ gY⟩
  clear sY gY
  go_wp2_with fail
  rw [← hY]
  clear hY b0
  refine (loosen_calls (cp := 1) HY.out.1 HY.out.2.2.2 (by simp) (by have := HBN.out; simp; omega) (by simp; exact HY.out.2.1.hpg)).mono ?_
  rintro e W1 ⟨rfl, m1, f1⟩
  have HM1 : Hid (MkAt w0 W1 mb { M with n := M.n + 1, D := loD M.D [x.pg] }) := m1
  have HB1 : Hid (W1.heap[bb]? = some (.cells #[.int .u32 (x.pg : Int), .slice x.na x.ns.length x.nc] 53 (0, 0))) := (f1.block _ (lt_of_heap HY.out.2.2.1) HX.out.2.2.2).trans HY.out.2.2.1
  have HR1 : Hid (NRow W1 x.na x.nb x.no x.ns) := HY.out.2.1.row.fr f1 (fun e => HY.out.2.1.row.neSet HY.out.1.set e)
  have b1 : W1.cell? ⟨bb, 1, none⟩ = some (.slice x.na x.ns.length x.nc) := (cell_of_row _ _ _ _ _ _ HB1.out).trans rfl
  have HF1 : Hid (Fr (fun k => k = M.lb) w W1) := Fr.trans (HWY.out.mono (fun _ _ e => e.elim)) f1 (fun _ _ e => e)
  clear m1 f1
  go_wp2_with fail
  refine (loosen_calls (cp := x.nc) HM1.out HR1.out HY.out.2.1.hl HBN.out HY.out.2.1.hns).mono ?_
  rintro e W2 ⟨rfl, m2, f2⟩
  have HM2 : Hid (MkAt w0 W2 mb { M with n := M.n + 1 + x.ns.length, D := loD (loD M.D [x.pg]) x.ns }) := m2
  obtain ⟨_, _, c2, _⟩ := m2.cell
  have z2 := m2.frozen 2
  have hw : RowKit.wrap64 ((M.opened : Int) + 1) = (M.opened : Int) + 1 := by have := HLT.out; unfold RowKit.wrap64; omega
  have HF2 : Hid (Fr (fun k => k = M.lb) w W2) := Fr.trans HF1.out f2 (fun _ _ e => e)
  clear m2 f2 b1
  go_wp2_with fail
  go_end0
  have m2 := HM2.out
  have f : Fr (fun k => k = mb) W2 (W2.setCell ⟨mb, 2, none⟩ (.int .i64 ((M.opened : Int) + 1))) := (Fr.refl (fun k => k = mb) _).setCell (p := ⟨mb, 2, none⟩) (fun _ => rfl) _
  refine ⟨rfl, ⟨six_set2 m2.hm _, m2.set.fr f (fun e => m2.ne e.symm), m2.sp.fr f (fun e => (m2.ap e).1), m2.ap, Fr.trans m2.base f (fun k hk e => by have := m2.ge.1; omega), m2.ge, m2.bn, m2.vs, m2.sc, m2.scm⟩, ?_⟩
  exact Fr.trans (HF2.out.mono (fun _ _ e => Or.inr e)) (f.mono (fun _ _ e => Or.inl e)) (fun _ _ e => e)
end Go.Proofs.Ytajbifblbmlffaa
namespace Go.Proofs.Ytajbifblbmlffaa
open Go.RowKit Go.Maps

/-- What is loose behind batches that were opened. -/
def opD (D : SetD) : List Bt → SetD
  | [] => D
  | x :: xs => opD (loD (loD D [x.pg]) x.ns) xs
theorem drop_take {α : Type} {L : List α} {o t : Nat} {x : α} (hx : L[o]? = some x) (h : o ≤ t) : (L.drop o).take (t + 1 - o) = x :: (L.drop (o + 1)).take (t + 1 - (o + 1)) := by
  obtain ⟨hl, e⟩ := List.getElem?_eq_some_iff.1 hx
  rw [List.drop_eq_getElem_cons hl, e, show t + 1 - o = (t + 1 - (o + 1)) + 1 from by omega, List.take_succ_cons]
set_option maxRecDepth 100000 in
set_option maxHeartbeats 1000000 in
theorem tree_calls {w0 w : World} {mb cb co no bt : Nat} {M : Mk} {L : List Bt} {S' : List (Nat × Nat)} (h : MkAt w0 w mb M) (hch : BtRow w0 M.ca cb co L) (hcl : M.cl = L.length) (hS : M.S = (no, bt) :: S') (hbt : bt < L.length) (hlm : L.length ≤ 100) (ho : M.opened ≤ bt + 1) (hb : M.n + 1001 * L.length ≤ 500000) :
    Calls Try.prog 47 #[.pointer (some ⟨mb, 0, none⟩)] w fun e w' => e = .returned (.tuple #[.int .u32 (no : Int), .int .i64 0]) ∧ (∃ sa so sc n', n' ≤ M.n + 1001 * (bt + 1 - M.opened) ∧ MkAt w0 w' mb { M with sa := sa, so := so, sc := sc, S := S', opened := bt + 1, n := n', D := delN (opD M.D ((L.drop M.opened).take (bt + 1 - M.opened))) no }) ∧ Fr (fun k => k = mb ∨ k = M.lb) w w' := by
  have HH : Hid (MkAt w0 w mb M) := h
  have HCH : Hid (BtRow w0 M.ca cb co L) := hch
  have HCL : Hid (M.cl = L.length ∧ L.length ≤ 100 ∧ bt < L.length ∧ M.n + 1001 * L.length ≤ 500000) := ⟨hcl, hlm, hbt, hb⟩
  have HS : Hid (M.S = (no, bt) :: S') := hS
  have hl : M.S.length = S'.length + 1 := by rw [hS]; rfl
  have hlz : (((S'.length : Int) + 1 == 0)) = false := by rw [beq_eq_false_iff_ne]; omega
  obtain ⟨c0, c1, c2, c3, c4, c5⟩ := h.cell
  rw [hl] at c1
  have HO : Hid (M.opened ≤ bt + 1) := ho
  clear h hch hcl hlm hbt hb hS c0 c2 c3 c4 c5
  go_enter Try.func47, Try.ntmps47
  go_wp2_with fail
  clear c1
  go_loopg [] (bt + 1 - M.opened) (fun g wr => ∃ (o' n' : Nat) (D' : SetD), o' ≤ bt + 1 ∧ g = bt + 1 - o' ∧ Hid (M.opened ≤ o' ∧ n' ≤ M.n + 1001 * (o' - M.opened)) ∧ Hid (MkAt w0 wr mb { M with opened := o', n := n', D := D' }) ∧ Hid (opD M.D ((L.drop M.opened).take (bt + 1 - M.opened)) = opD D' ((L.drop o').take (bt + 1 - o'))) ∧ Hid (Fr (fun k => k = mb ∨ k = M.lb) w wr))
  case atStart => exact ⟨M.opened, M.n, M.D, HO.out, rfl, ⟨Nat.le_refl _, by omega⟩, HH.out, rfl, Fr.refl _ _⟩
  case round =>
    obtain ⟨o', n', D', ho', hg, HOO, HM, HD, HFR⟩ := hrel
    have hm := HM.out
    obtain ⟨c0, c1, c2, c3, c4, c5⟩ := hm.cell
    obtain ⟨hpa, hlt⟩ := hm.sp.place (by show M.S ≠ []; rw [HS.out]; simp)
    obtain ⟨q0, q1⟩ := hm.sp.cells 0 (no, bt) (by show M.S[0]? = _; rw [HS.out]; rfl)
    simp only [Nat.zero_mul, Nat.add_zero] at hpa q0 q1 c1 c2 hlt
    rw [hpa, hl] at c1
    have hlen1 : (0 : Int) < ((S'.length + 1 : Nat) : Int) := by omega
    clear hm c0 c3 c4 c5 q0 hlt
    by_cases hgo : o' ≤ bt
    · have hgi : (o' : Int) ≤ (bt : Int) := by omega
      obtain ⟨x, hx⟩ : ∃ x, L[o']? = some x := ⟨_, List.getElem?_eq_getElem (by have := HCL.out; omega)⟩
      have HX : Hid (L[o']? = some x) := hx
      clear hx
      go_wp2_with fail
      go_region
      have HM1 : Hid (MkAt w0 wr.drew mb { M with opened := o', n := n', D := D' }) := HM.out.same (Fr.drew (Fr.refl _ _))
      have HFX : Hid (Fr (fun k => k = mb ∨ k = M.lb) w wr.drew) := Fr.drew HFR.out
      generalize wr.drew = X at *
      clear c1 c2 q1 hpa hgi hlen1
      go_wp2_with fail
      refine (open_batch HM1.out HCH.out HCL.out.1 HX.out (by have := HCL.out; omega) ?_).mono ?_
      · have h1 := HCL.out
        have h2 := HOO.out
        have h3 := ((HCH.out.same HM1.out.base).cells _ _ HX.out).2.2.hl
        show n' + 1 + x.ns.length ≤ 500000
        have h4 : o' - M.opened + 1 ≤ L.length := by omega
        have h5 : 1001 * (o' - M.opened + 1) ≤ 1001 * L.length := Nat.mul_le_mul_left _ h4
        omega
      rintro e X2 ⟨rfl, m2, f2⟩
      have HFX2 : Hid (Fr (fun k => k = mb ∨ k = M.lb) w X2) := Fr.trans HFX.out f2 (fun _ _ e => e)
      clear f2
      have HM2 : Hid (MkAt w0 X2 mb { M with opened := o' + 1, n := n' + 1 + x.ns.length, D := loD (loD D' [x.pg]) x.ns }) := m2
      have HO2 : Hid (M.opened ≤ o' + 1 ∧ n' + 1 + x.ns.length ≤ M.n + 1001 * (o' + 1 - M.opened)) := by
        have h2 := HOO.out
        have h3 := ((HCH.out.same HM1.out.base).cells _ _ HX.out).2.2.hl
        exact ⟨by omega, by omega⟩
      have HD2 : Hid (opD M.D ((L.drop M.opened).take (bt + 1 - M.opened)) = opD (loD (loD D' [x.pg]) x.ns) ((L.drop (o' + 1)).take (bt + 1 - (o' + 1)))) := by
        show _ = _
        rw [HD.out, drop_take HX.out hgo]
        rfl
      clear m2
      go_wp2_with fail
      go_roundg (bt + 1 - (o' + 1))
      case measure => omega
      case rel => exact ⟨o' + 1, _, _, by omega, rfl, HO2, HM2, HD2, HFX2⟩
    · have hgi : ¬ (o' : Int) ≤ (bt : Int) := by omega
      have heo : o' = bt + 1 := by omega
      go_wp2_with fail
      go_region
      have HM1 : Hid (MkAt w0 wr.drew mb { M with opened := bt + 1, n := n', D := opD M.D ((L.drop M.opened).take (bt + 1 - M.opened)) }) := by
        have h1 := HM.out.same (Fr.drew (Fr.refl _ wr))
        have h2 := HD.out
        rw [heo, Nat.sub_self, List.take_zero] at h2
        show MkAt _ _ _ _
        rw [h2, ← heo]
        exact h1
      have HN1 : Hid (n' ≤ M.n + 1001 * (bt + 1 - M.opened)) := by have := HOO.out.2; rw [heo] at this; exact this
      have HFX : Hid (Fr (fun k => k = mb ∨ k = M.lb) w wr.drew) := Fr.drew HFR.out
      generalize wr.drew = X at *
      clear c1 c2 q1 hpa hgi hlen1 heo HM HD HOO
      go_wp2_with fail
      refine (takeSpare_calls HM1.out HS.out).mono ?_
      rintro e X2 ⟨rfl, ⟨sa, so, sc, m2⟩, f2⟩
      have HFX2 : Hid (Fr (fun k => k = mb ∨ k = M.lb) w X2) := Fr.trans HFX.out f2 (fun _ _ e => e)
      clear f2
      have HM2 : Hid (MkAt w0 X2 mb { M with sa := sa, so := so, sc := sc, S := S', opened := bt + 1, n := n', D := delN (opD M.D ((L.drop M.opened).take (bt + 1 - M.opened))) no }) := m2
      clear m2
      go_wp2_with fail
      go_ret2
      exact ⟨rfl, ⟨sa, so, sc, n', HN1.out, HM2.out⟩, HFX2.out⟩
end Go.Proofs.Ytajbifblbmlffaa
namespace Go.Proofs.Ytajbifblbmlffaa
open Go.RowKit Go.Maps

theorem MkAt.neRow {w W : World} {mb : Nat} {M : Mk} (h : MkAt w W mb M) {B n c sz : Nat} {e : TypeId} {ao : Option Addr} {xs : List Value} (o : W.ownsRow B e sz (.slice ao n c) n xs) (he : e ≠ 101) : ∀ k, (Value.slice ao n c).ownBlock = some k → ¬ (k = mb ∨ k = M.lb) := fun k hk e2 => by
  rcases e2 with e2 | e2
  · exact own_neT o h.hm he k hk e2
  · obtain ⟨es, cl, h1, _⟩ := h.set
    obtain ⟨hl, h0 | ⟨g2, c2, cur, hv, _, hh, _⟩⟩ := o
    · have hn := h0.1
      injection hn with e1 _ _
      rw [e1] at hk
      cases hk
    · injection hv with e1 _ _
      rw [e1] at hk
      simp [Value.ownBlock] at hk
      rw [hk, e2, h1] at hh
      cases hh
/-- Row blocks that append makes are new, or the row's own: a plan under way is not touched. -/
theorem MkAt.grown {w W W' : World} {mb : Nat} {M : Mk} {row : Option Nat} (h : MkAt w W mb M) (hg : W.grownBy W' row) (hr : ∀ k, row = some k → w.heap.size ≤ k ∧ k ≠ mb ∧ k ≠ M.lb ∧ (M.S ≠ [] → k ≠ M.sb)) : MkAt w W' mb M := by
  have f : Fr (fun k => row = some k) W W' := Fr.grown (Fr.refl _ _) hg (fun k e _ => e)
  exact ⟨(f.block _ (lt_of_heap h.hm) (fun e => (hr _ e).2.1 rfl)).trans h.hm, h.set.fr f (fun e => (hr _ e).2.2.1 rfl), h.sp.fr f (fun e e2 => (hr _ e2).2.2.2 e rfl), h.ap, Fr.trans h.base f (fun k hk e => by have := (hr k e).1; omega), h.ge, h.bn, h.vs, h.sc, h.scm⟩
set_option maxRecDepth 100000 in
set_option maxHeartbeats 1000000 in
theorem trees_one {w0 w : World} {mb cb co no bt : Nat} {M : Mk} {L : List Bt} {S' : List (Nat × Nat)} (h : MkAt w0 w mb M) (hch : BtRow w0 M.ca cb co L) (hcl : M.cl = L.length) (hS : M.S = (no, bt) :: S') (hbt : bt < L.length) (hlm : L.length ≤ 100) (ho : M.opened ≤ bt + 1) (hb : M.n + 1001 * L.length ≤ 500000) :
    Calls Try.prog 36 #[.pointer (some ⟨mb, 0, none⟩), .int .i64 1] w fun e w' => ∃ ao c, e = .returned (.tuple #[.slice ao 1 c, .int .i64 0]) ∧ w'.ownsRow w.heap.size 28 1 (.slice ao 1 c) 1 (ncells [no]) ∧ (∃ sa so sc n', n' ≤ M.n + 1001 * (bt + 1 - M.opened) ∧ MkAt w0 w' mb { M with sa := sa, so := so, sc := sc, S := S', opened := bt + 1, n := n', D := delN (opD M.D ((L.drop M.opened).take (bt + 1 - M.opened))) no }) ∧ Fr (fun k => k = mb ∨ k = M.lb) w w' := by
  have HT : Hid (Calls Try.prog 47 #[.pointer (some ⟨mb, 0, none⟩)] w fun e w' => e = .returned (.tuple #[.int .u32 (no : Int), .int .i64 0]) ∧ (∃ sa so sc n', n' ≤ M.n + 1001 * (bt + 1 - M.opened) ∧ MkAt w0 w' mb { M with sa := sa, so := so, sc := sc, S := S', opened := bt + 1, n := n', D := delN (opD M.D ((L.drop M.opened).take (bt + 1 - M.opened))) no }) ∧ Fr (fun k => k = mb ∨ k = M.lb) w w') := tree_calls h hch hcl hS hbt hlm ho hb
  have HLW : Hid (w0.heap.size ≤ w.heap.size ∧ (M.S ≠ [] → M.sb < w.heap.size) ∧ S'.length ≤ M.S.length ∧ (S' ≠ [] → M.S ≠ [])) := ⟨h.base.size, fun e => (h.sp.place e).2, by rw [hS]; simp, fun _ => by rw [hS]; simp⟩
  clear h hch hcl hS hbt hlm ho hb
  go_enter Try.func36, Try.ntmps36
  go_wp2_with fail
  refine wp_loop_rounds 2 ?_
  rw [rounds_succ]
  go_wp2_with fail
  refine HT.out.mono ?_
  rintro e W1 ⟨rfl, ⟨sa, so, sc, n', hn', m1⟩, f1⟩
  have HM1 : Hid (MkAt w0 W1 mb { M with sa := sa, so := so, sc := sc, S := S', opened := bt + 1, n := n', D := delN (opD M.D ((L.drop M.opened).take (bt + 1 - M.opened))) no }) := m1
  have HF1 : Hid (Fr (fun k => k = mb ∨ k = M.lb) w W1) := f1
  have HN1 : Hid (n' ≤ M.n + 1001 * (bt + 1 - M.opened)) := hn'
  have oa : (W1.alloc (.cells #[.int .u32 (no : Int)] 28)).ownsRow w.heap.size 28 1 (.slice none 0 0) 0 [] := own_nil
  have hvb : w.heap.size ≤ (W1.alloc (.cells #[.int .u32 (no : Int)] 28)).heap.size := by have := f1.size; simp; omega
  clear m1 f1 hn'
  go_wp2_with (at_builtin; go_must (refine wpList_partNums _ (by rfl) _ _ (by rfl) (by rfl) oa (x := ⟨some ⟨W1.heap.size, 0, none⟩, 1, 1, [.int .u32 (no : Int)]⟩) (by rfl) (part_oneN _ _ (heap_alloc_new W1 _) rfl) (by show 0 + 1 ≤ 1099511627776; decide) hvb ?_; intro ao2 c2 W2 o2 g2))
  have HM2 : Hid (MkAt w0 W2 mb { M with sa := sa, so := so, sc := sc, S := S', opened := bt + 1, n := n', D := delN (opD M.D ((L.drop M.opened).take (bt + 1 - M.opened))) no }) := (HM1.out.same ((Fr.refl _ W1).alloc _)).grown g2 (fun k e => by cases e)
  have HF2 : Hid (Fr (fun k => k = mb ∨ k = M.lb) w W2) := Fr.grown (Fr.alloc HF1.out _) g2 (fun k e _ => by cases e)
  have HO2 : Hid (W2.ownsRow w.heap.size 28 1 (.slice ao2 1 c2) 1 (ncells [no])) := o2
  clear o2 g2 oa hvb HT
  rw [rounds_succ]
  go_wp2_with fail
  go_ret2
  exact ⟨ao2, c2, rfl, HO2.out, ⟨sa, so, sc, n', HN1.out, HM2.out⟩, HF2.out⟩
end Go.Proofs.Ytajbifblbmlffaa
namespace Go.Proofs.Ytajbifblbmlffaa
open Go.RowKit Go.Maps

set_option maxRecDepth 100000 in
set_option maxHeartbeats 1000000 in
theorem list_spare {w0 w : World} {mb no bt : Nat} {M : Mk} {S' : List (Nat × Nat)} (h : MkAt w0 w mb M) (hS : M.S = (no, bt) :: S') (hbt : bt < M.opened) :
    Calls Try.prog 48 #[.pointer (some ⟨mb, 0, none⟩)] w fun e w' => e = .returned (.tuple #[.int .u32 (no : Int), .int .i64 0]) ∧ (∃ sa so sc, MkAt w0 w' mb { M with sa := sa, so := so, sc := sc, S := S', D := delN M.D no }) ∧ Fr (fun k => k = mb ∨ k = M.lb) w w' := by
  have HH : Hid (MkAt w0 w mb M) := h
  have HS : Hid (M.S = (no, bt) :: S') := hS
  have hl : M.S.length = S'.length + 1 := by rw [hS]; rfl
  obtain ⟨c0, c1, c2, c3, c4, c5⟩ := h.cell
  obtain ⟨hpa, hlt⟩ := h.sp.place (by rw [hS]; simp)
  obtain ⟨q0, q1⟩ := h.sp.cells 0 (no, bt) (by rw [hS]; rfl)
  simp only [Nat.zero_mul, Nat.add_zero] at hpa q0 q1
  rw [hpa, hl] at c1
  have hlen1 : (0 : Int) < ((S'.length + 1 : Nat) : Int) := by omega
  have hlen2 : (0 : Int) < (S'.length : Int) + 1 := by omega
  have hbi : (bt : Int) < (M.opened : Int) := by omega
  clear h hS c0 c3 c4 c5 q0 hlt hl hpa
  go_enter Try.func48, Try.ntmps48
  go_wp2_with fail
  go_step3
  go_wp2_with fail
  go_step3
  go_wp2_with fail
  refine wp_loop_rounds 1 ?_
  rw [rounds_succ]
  go_wp2_with fail
  go_region
  have HM1 : Hid (MkAt w0 w.drew mb M ∧ Same w w.drew) := ⟨HH.out.same (Fr.drew (Fr.refl _ w)), Fr.drew (Fr.refl _ w)⟩
  generalize w.drew = X at *
  clear c1 c2 q1 hlen1 hlen2 hbi hbt
  go_wp2_with fail
  refine (takeSpare_calls HM1.out.1 HS.out).mono ?_
  rintro e X2 ⟨rfl, ⟨sa, so, sc, m2⟩, f2⟩
  have HM2 : Hid (MkAt w0 X2 mb { M with sa := sa, so := so, sc := sc, S := S', D := delN M.D no }) := m2
  have HF2 : Hid (Fr (fun k => k = mb ∨ k = M.lb) w X2) := Fr.trans (HM1.out.2.mono (fun _ _ e => e.elim)) f2 (fun _ _ e => e)
  clear m2 f2
  go_wp2_with fail
  try rw [Exit.noGoto_ret]
  go_ret2
  exact ⟨rfl, ⟨sa, so, sc, HM2.out⟩, HF2.out⟩
end Go.Proofs.Ytajbifblbmlffaa
namespace Go.Proofs.Ytajbifblbmlffaa
open Go.RowKit Go.Maps

theorem Try.infSp : (Try.prog.info? 118).map (fun i => (i.zero, i.size, i.bytes)) = some (some (.agg #[.int .u32 0, .int .i64 0]), 2, 16) := by kernel_rfl
theorem run_partSps (w : World) (ty : TypeId) {B n : Nat} {v : Value} {xs : List Value} (hown : w.ownsRow B 118 2 v n xs) {x : Part} (hx : PartOk w 2 x) (hb : n + x.n ≤ 1099511627776) (hB : B ≤ w.heap.size) :
    ∃ v' w', (Builtin.append_ #[99, 99] ty #[v, .slice x.ao x.n x.c]).run Try.prog w = .ok v' w' ∧ w'.ownsRow B 118 2 v' (n + x.n) (xs ++ x.cells) ∧ w.grownBy w' v.ownBlock := by
  obtain ⟨i0, hi, hz0, hz1, hz2⟩ := info_parts Try.infSp
  obtain ⟨ao, m, c, cs⟩ := x
  cases ao with
  | none =>
    obtain ⟨e1, e2⟩ := hx.none rfl
    have e3 := hx.len
    simp only at e1 e2 e3
    subst e1 e2
    have e4 : cs = [] := List.eq_nil_of_length_eq_zero (by omega)
    subst e4
    refine ⟨v, w, run_append_owned_none (P := Try.prog) (w := w) B 99 ty 118 i0 2 Try.underlying99 hi v n xs hown, ?_, ⟨rfl, rfl, rfl, Nat.le_refl _, fun _ _ _ => rfl⟩⟩
    rw [List.append_nil]; exact hown
  | some a =>
    simp only at hb
    obtain ⟨v', w', h1, h2, h3, _⟩ := run_append_own (P := Try.prog) w B 99 ty 118 i0 (.agg #[.int .u32 0, .int .i64 0]) 2 16 Try.underlying99 hi hz0 hz1 hz2 rfl (by decide) v n xs hown a m c cs hx.len (hx.at_ a rfl) hx.one (by unfold maxLen; omega) (by omega) hB
    exact ⟨v', w', h1, h2, h3⟩
theorem wpList_partSps (w : World) {ops : Array Oper} {rest : List Oper} {o : Oper} {a : Act} {Q : Exit → Act → World → Prop} (hgd : o.guard = none) (sl y : Operand)
    (ho : o.op = .call { callee := .builtin .append, args := #[sl, y], argTypes := #[99, 99] }) {B n : Nat} {v : Value} {xs : List Value} (hs : a.eval sl = v) (hown : w.ownsRow B 118 2 v n xs) {x : Part} (hy : a.eval y = .slice x.ao x.n x.c) (hx : PartOk w 2 x) (hb : n + x.n ≤ 1099511627776) (hB : B ≤ w.heap.size)
    (hk : ∀ ao c w', w'.ownsRow B 118 2 (.slice ao (n + x.n) c) (n + x.n) (xs ++ x.cells) → w.grownBy w' v.ownBlock → wpList Try.prog ops Q rest (a.put o.dst (.slice ao (n + x.n) c)) w') : wpList Try.prog ops Q (o :: rest) a w := by
  obtain ⟨v', w', hr, h2, h3⟩ := run_partSps w o.type hown hx hb hB
  obtain ⟨ao, c, rfl⟩ := own_shape h2
  exact Lib.wpList_append_run w hgd sl y _ _ ho _ _ hs hy _ _ hr (hk ao c w' h2 h3)
def spcells (S : List (Nat × Nat)) : List Value := S.flatMap fun x => [.int .u32 (x.1 : Int), .int .i64 (x.2 : Int)]
theorem spcells_app (a b : List (Nat × Nat)) : spcells (a ++ b) = spcells a ++ spcells b := List.flatMap_append
theorem spcells_get : ∀ (S : List (Nat × Nat)) (j : Nat) (x : Nat × Nat), S[j]? = some x → (spcells S)[j * 2]? = some (.int .u32 (x.1 : Int)) ∧ (spcells S)[j * 2 + 1]? = some (.int .i64 (x.2 : Int))
  | [], j, x, h => by simp at h
  | y :: ys, 0, x, h => by
    simp at h
    subst h
    exact ⟨rfl, rfl⟩
  | y :: ys, j + 1, x, h => by
    have := spcells_get ys j x (by simpa using h)
    rw [show (j + 1) * 2 = j * 2 + 2 from by omega]
    exact this
theorem own_sprow {W : World} {e : TypeId} {B n cap : Nat} {S : List (Nat × Nat)} {ao : Option Addr} (h : W.ownsRow B e 2 (.slice ao n cap) n (spcells S)) (hn : n = S.length) : ∃ g, SpRow W ao g 0 S ∧ (S ≠ [] → (Value.slice ao n cap).ownBlock = some g) := by
  by_cases h0 : S = []
  · subst h0
    exact ⟨0, ⟨fun e => absurd rfl e, fun j x hx => by simp at hx⟩, fun e => absurd rfl e⟩
  · obtain ⟨g, rfl, hg⟩ := own_some (own_base h (Nat.zero_le _)) (by rw [hn]; intro e; exact h0 (List.eq_nil_of_length_eq_zero e))
    refine ⟨g, ⟨fun _ => ⟨rfl, hg⟩, fun j x hx => ?_⟩, fun _ => rfl⟩
    obtain ⟨k1, k2⟩ := spcells_get S j x hx
    rw [Nat.zero_add]
    exact ⟨own_cell (own_base h (Nat.zero_le _)) k1, own_cell (own_base h (Nat.zero_le _)) k2⟩
theorem part_twoSp {W : World} {g : Nat} {x y : Value} (t : TypeId) (fr : Nat × Nat) (h : W.heap[g]? = some (.cells #[x, y] t fr)) (hx : x.oneCell' = true) (hy : y.oneCell' = true) : PartOk W 2 ⟨some ⟨g, 0, none⟩, 1, 1, [x, y]⟩ :=
  ⟨rfl, fun e => (by cases e), fun a ha j u hj => by
    cases ha
    rw [WideShapes.add_plain, Nat.zero_add, cell_of_row _ _ _ _ _ _ h, ← Array.getElem?_toList]
    exact hj, fun u hu => by
      simp only [List.mem_cons, List.not_mem_nil, or_false] at hu
      rcases hu with rfl | rfl
      · exact hx
      · exact hy⟩
/-- The spares of a batch: its numbers that are not held. -/
def spF (H : SetD) (i : Nat) (ns : List Nat) : List (Nat × Nat) := (ns.filter fun x => !hasN H x).map fun x => (x, i)
def spL (H : SetD) : Nat → List Bt → List (Nat × Nat)
  | _, [] => []
  | i, x :: xs => spF H i x.ns ++ spL H (i + 1) xs
theorem spL_snoc (H : SetD) : ∀ (L : List Bt) (i : Nat) (x : Bt), spL H i (L ++ [x]) = spL H i L ++ spF H (i + L.length) x.ns
  | [], i, x => by simp [spL]
  | y :: ys, i, x => by
    show spF H i y.ns ++ spL H (i + 1) (ys ++ [x]) = _
    rw [spL_snoc H ys (i + 1) x, ← List.append_assoc]
    show _ = spF H i y.ns ++ spL H (i + 1) ys ++ spF H (i + (ys.length + 1)) x.ns
    rw [show i + 1 + ys.length = i + (ys.length + 1) from by omega]
theorem spF_snoc (H : SetD) (i : Nat) (ns : List Nat) (x : Nat) : spF H i (ns ++ [x]) = spF H i ns ++ (if hasN H x then [] else [(x, i)]) := by
  unfold spF
  rw [List.filter_append, List.map_append]
  cases h : hasN H x <;> simp [h]
end Go.Proofs.Ytajbifblbmlffaa
