/- free: numbers that are owned: own, ownBatch. -/
import Derived.Maps.Own
import Derived.Maps.OwnOps
import Derived.Maps.OwnSet
import Derived.Test.YtajbifblbmlffaaED
namespace Go.Proofs.Ytajbifblbmlffaa
open Go.RowKit Go.Maps

abbrev SetD := DataW Unit
def hasN (D : SetD) (x : Nat) : Bool := Maps.has D (.int .u32 (x : Int))
def putN (D : SetD) (x : Nat) : SetD := D.put (.int .u32 (x : Int)) (.agg [])
def delN (D : SetD) (x : Nat) : SetD := D.del (.int .u32 (x : Int))
theorem ukey : Keyed Try.prog 28 := int_keyed Try.underlying28
theorem uzero (w : World) : (zeroValue 108).run Try.prog w = .ok (.agg #[]) w := by kernel_rfl
theorem ukeyOf {x : Nat} (h : x < 4294967296) : keyOf Try.prog 28 (.int .u32 (x : Int)) = some (.int .u32 (x : Int)) := keyOf_int_mk Try.underlying28 (WalkArith.wf_u32 ⟨by omega, by omega⟩)
/-- A map at b holds at most n numbers: those of D. -/
abbrev SetAt (W : World) (b n : Nat) (D : SetD) : Prop := W.ownsMap Try.prog 28 (unitElem (H := Unit)) b n D
theorem SetAt.more {W : World} {b n m : Nat} {D : SetD} (h : SetAt W b n D) (hm : n ≤ m) : SetAt W b m D := by
  obtain ⟨es, cl, h1, h2, h3, h4⟩ := h
  exact ⟨es, cl, h1, h2, Nat.le_trans h3 hm, h4⟩
theorem SetAt.lt {W : World} {b n : Nat} {D : SetD} (h : SetAt W b n D) : b < W.heap.size := by
  obtain ⟨es, cl, h1, _⟩ := h
  exact lt_of_heap h1
theorem SetAt.fr {W W' : World} {b n : Nat} {D : SetD} {S : Nat → Prop} (h : SetAt W b n D) (f : Fr S W W') (hb : ¬ S b) : SetAt W' b n D := by
  obtain ⟨es, cl, h1, h2⟩ := h
  exact ⟨es, cl, (f.block _ (lt_of_heap h1) hb).trans h1, h2⟩
/-- Which numbers are owned behind numbers that are laid in one by one, and whether all could be. -/
def ownD (pages : Nat) : SetD → List Nat → Bool × SetD
  | D, [] => (true, D)
  | D, x :: xs => if hasN D x then (false, D) else if cntB x pages = false then (false, D) else ownD pages (putN D x) xs
set_option maxRecDepth 100000 in
set_option maxHeartbeats 1000000 in
theorem fown_calls {p q : Int} {pa : Option Addr} {pb po cp pages b m : Nat} {ns : List Nat} {D : SetD} (w : World) (hr : NRow w pa pb po ns) (hm : SetAt w b m D) (hn : ns.length ≤ 10000000) (hm2 : m ≤ 10000000) (hns : ∀ x ∈ ns, x < 4294967296) :
    Calls Try.prog 27 #[.agg #[.int .i64 p, .int .i64 q, .int .u32 (pages : Int), .map (some b)], .slice pa ns.length cp] w fun e w' => e = .returned (.bool (ownD pages D ns).1) ∧ SetAt w' b (m + ns.length) (ownD pages D ns).2 ∧ Fr (fun k => k = b) w w' := by
  have HCn : Hid (∀ n W, Calls Try.prog 28 #[.int .u32 ((n : Nat) : Int), .int .u32 (pages : Int)] W fun e w' => e = .returned (.bool (cntB n pages)) ∧ Same W w') := fun n W => fcounted_calls n pages W
  obtain ⟨V, hV⟩ : ∃ V, V = w.alloc (.cells #[.int .i64 p, .int .i64 q, .int .u32 (pages : Int), .map (some b)] 48) := ⟨_, rfl⟩
  have sx : Same w V := by rw [hV]; exact (Fr.refl _ w).alloc _
  have rx := heap_alloc_new w (.cells #[.int .i64 p, .int .i64 q, .int .u32 (pages : Int), .map (some b)] 48)
  rw [← hV] at rx
  have HRX : Hid (∀ W, Fr (fun k => k = b) V W → W.cell? ⟨w.heap.size, 2, none⟩ = some (.int .u32 (pages : Int)) ∧ W.cell? ⟨w.heap.size, 3, none⟩ = some (.map (some b))) := fun W f => by
    have e := (f.block _ (lt_of_heap rx) (by have := hm.lt; omega)).trans rx
    exact ⟨(cell_of_row _ _ _ _ _ _ e).trans rfl, (cell_of_row _ _ _ _ _ _ e).trans rfl⟩
  have HR : Hid (∀ W, Fr (fun k => k = b) V W → ∀ (j x : Nat), ns[j]? = some x → (pa = some ⟨pb, po, none⟩) ∧ W.cell? ⟨pb, po + j, none⟩ = some (.int .u32 (x : Int))) := fun W f j x hx => by
    have hr' := hr.same sx
    have hc := hr'.cells j x hx
    have hb : pb ≠ b := fun e => by
      obtain ⟨es, cl, h1, _⟩ := hm.fr sx (fun f => f)
      rw [e] at hc
      simp [World.cell?, h1] at hc
    exact ⟨(hr'.place (by intro e; rw [e] at hx; simp at hx)).1, (f.cell (World.block_lt_of_cell? _ _ hc) hb).trans hc⟩
  have HM : Hid (SetAt V b m D) := hm.fr sx (fun f => f)
  have HNS : Hid (∀ x ∈ ns, x < 4294967296) := hns
  obtain ⟨n, hnn⟩ : ∃ n, n = ns.length := ⟨_, rfl⟩
  rw [← hnn] at hn ⊢
  have HN : Hid (n = ns.length) := hnn
  have HB : Hid (b < w.heap.size) := hm.lt
  clear hr hnn rx hm hns
  go_enter Try.func27, Try.ntmps27
  go_wp2_with fail
  rw [← hV]
  clear hV
  go_loopg [11] n (fun g iv wr => ∃ (k : Nat) (D' : SetD), iv = .int .i64 (k : Int) ∧ k ≤ n ∧ g = n - k ∧ Hid (ownD pages D ns = ownD pages D' (ns.drop k)) ∧ Hid (SetAt wr b (m + k) D') ∧ Hid (Fr (fun k => k = b) V wr))
  case atStart => exact ⟨0, D, rfl, by omega, rfl, rfl, HM, Fr.refl _ V⟩
  case round =>
    obtain ⟨k, D', rfl, hk, hg, HI, HS, HF⟩ := hrel
    by_cases hgo : k < n
    · obtain ⟨a, hx⟩ : ∃ x, ns[k]? = some x := ⟨_, List.getElem?_eq_getElem (by rw [← HN.out]; exact hgo)⟩
      obtain ⟨hpa, hc⟩ := HR.out _ HF.out k a hx
      subst hpa
      have ha := HNS.out a (List.mem_of_getElem? hx)
      obtain ⟨c2, c3⟩ := HRX.out _ HF.out
      have hdrop : ns.drop k = a :: ns.drop (k + 1) := by
        have hl : k < ns.length := by rw [← HN.out]; exact hgo
        have e : ns[k] = a := by rw [List.getElem?_eq_getElem hl] at hx; exact Option.some.inj hx
        rw [List.drop_eq_getElem_cons hl, e]
      have HI2 : Hid (ownD pages D ns = if hasN D' a then (false, D') else if cntB a pages = false then (false, D') else ownD pages (putN D' a) (ns.drop (k + 1))) := by
        show _ = _
        rw [HI.out, hdrop]; rfl
      have HKY : Hid (keyOf Try.prog 28 (.int .u32 (a : Int)) = some (.int .u32 (a : Int))) := ukeyOf ha
      have HC1 : Hid (∀ W, Calls Try.prog 28 #[.int .u32 (a : Int), .int .u32 (pages : Int)] W fun e w' => e = .returned (.bool (cntB a pages)) ∧ Same W w') := fun W => HCn.out a W
      have c2a : (wr.alloc (.cells #[] 108)).cell? ⟨w.heap.size, 2, none⟩ = some (.int .u32 (pages : Int)) := Same.keep ((Fr.refl _ wr).alloc _) c2
      clear hx hdrop HI ha
      cases hhs : Maps.has D' (.int .u32 (a : Int)) with
      | true =>
        have hr : Hid (ownD pages D ns = (false, D')) := by show _ = _; rw [HI2.out, show hasN D' a = true from hhs]; rfl
        go_wp2_with (at_lookup; refine wpList_lookup_own_unit _ rfl _ _ 46 rfl 28 108 ukey Try.underlying46 (uzero _) b (m + k) D' rfl HS.out _ _ rfl HKY.out ?_)
        go_ret
        exact ⟨by rw [hr.out]; rfl, by rw [hr.out]; exact (HS.out.more (by omega)).fr ((Fr.refl (fun _ => False) wr).alloc _) (fun f => f), Fr.alloc (Fr.trans (sx.mono (fun _ _ e => e.elim)) HF.out (fun _ _ e => e)) _⟩
      | false =>
        have HI3 : Hid (ownD pages D ns = if cntB a pages = false then (false, D') else ownD pages (putN D' a) (ns.drop (k + 1))) := by show _ = _; rw [HI2.out, show hasN D' a = false from hhs]; rfl
        obtain ⟨Y, hY⟩ : ∃ Y, Y = wr.alloc (.cells #[] 108) := ⟨_, rfl⟩
        have HYS : Hid (SetAt Y b (m + k) D') := by rw [hY]; exact HS.out.fr ((Fr.refl (fun _ => False) wr).alloc _) (fun f => f)
        have HYF : Hid (Fr (fun k => k = b) V Y) := by rw [hY]; exact Fr.alloc HF.out _
        go_wp2_with (at_lookup; refine wpList_lookup_own_unit _ rfl _ _ 46 rfl 28 108 ukey Try.underlying46 (uzero _) b (m + k) D' rfl HS.out _ _ rfl HKY.out ?_)
        rw [← hY]
        clear hY hhs c2a HI2 c2 c3 hc
        refine (HC1.out _).mono ?_
        rintro e W1 ⟨rfl, s1⟩
        have HS1 : Hid (SetAt W1 b (m + k) D') := HYS.out.fr s1 (fun f => f)
        have HF1 : Hid (Fr (fun k => k = b) V W1) := Fr.trans HYF.out (s1.mono (fun _ _ e => e.elim)) (fun _ _ e => e)
        obtain ⟨c2, c3⟩ := HRX.out _ HF1.out
        clear s1
        cases hcb : cntB a pages with
        | false =>
          have hr : Hid (ownD pages D ns = (false, D')) := by show _ = _; rw [HI3.out, hcb]; rfl
          go_wp2_with fail
          go_ret
          exact ⟨by rw [hr.out]; rfl, by rw [hr.out]; exact HS1.out.more (by omega), Fr.trans (sx.mono (fun _ _ e => e.elim)) HF1.out (fun _ _ e => e)⟩
        | true =>
          have HI4 : Hid (ownD pages D ns = ownD pages (putN D' a) (ns.drop (k + 1))) := by show _ = _; rw [HI3.out, hcb]; rfl
          have hmx : m + k < maxLen := by unfold maxLen; omega
          clear HI3
          go_wp2_with (at_mapUpdate; refine wpList_mapUpdate_in _ rfl _ _ _ 46 rfl 28 108 ukey Try.underlying46 (unitElem (H := Unit)) b (m + k) D' rfl HS1.out hmx _ _ _ rfl rfl HKY.out (.agg []) [] unitElem_mk ?_; intro W2 o2 t2)
          have HS2 : Hid (SetAt W2 b (m + (k + 1)) (putN D' a)) := o2
          have HF2 : Hid (Fr (fun k => k = b) V W2) := Fr.grown HF1.out t2.grown (fun k e _ => by cases e; rfl)
          clear o2 t2 hcb
          go_wp2_with fail
          go_roundg (n - (k + 1))
          case measure => omega
          case rel => exact ⟨k + 1, putN D' a, by go_num, by omega, rfl, HI4, HS2, HF2⟩
    · have hd : ns.drop k = [] := List.drop_eq_nil_of_le (by rw [← HN.out]; omega)
      have hr : Hid (ownD pages D ns = (true, D')) := by show _ = _; rw [HI.out, hd]; rfl
      go_wp2_with fail
      go_ret
      exact ⟨by rw [hr.out]; rfl, by rw [hr.out]; exact HS.out.more (by omega), Fr.trans (sx.mono (fun _ _ e => e.elim)) HF.out (fun _ _ e => e)⟩
end Go.Proofs.Ytajbifblbmlffaa
