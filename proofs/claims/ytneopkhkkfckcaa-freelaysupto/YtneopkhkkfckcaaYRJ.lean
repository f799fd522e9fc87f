/- free: Lay of both sides, in one form. -/
import Derived.Test.YtneopkhkkfckcaaYP
import Derived.Test.YtneopkhkkfckcaaYQ
import Derived.Test.YtneopkhkkfckcaaYA
import Derived.Test.YtneopkhkkfckcaaEE
namespace Go.Proofs.Ytneopkhkkfckcaa
open Go.RowKit Go.Maps

/-- Is it laid? -/
def layOk (p q op : Int) (vr n pgs : Nat) (M ML : List Bt) : Bool := decide (1 ≤ vr) && decide (vr ≤ 1099511627776) && decide (0 ≤ op) && decide (op ≤ (n : Int)) && decide (chkE p q pgs (ML ++ M.drop op.toNat) = 0)
def layL (p q op : Int) (vr n pgs : Nat) (M ML : List Bt) : List Pgx := if layOk p q op vr n pgs M ML then laidP p q (ML ++ M.drop op.toNat) ML.length else []
def layE (p q op : Int) (vr n pgs : Nat) (M ML : List Bt) : Int := if layOk p q op vr n pgs M ML then 0 else 2
/-- What Lay answers: pages in new memory, and why not. -/
def LayIs (vr : Nat) (l : List Pgx) (er : Int) (w : World) (e : Ending) (w' : World) : Prop :=
  (∃ lo lc, e = .returned (.tuple #[.slice lo l.length lc, .int .i64 er]) ∧ w'.ownsRow w.heap.size 52 4 (.slice lo l.length lc) l.length (pgCs vr l)) ∧ Same w w'
theorem layIs_of {vr : Nat} {l : List Pgx} {er : Int} {w : World} {e : Ending} {w' : World} (h : ∃ lo lc, e = .returned (.tuple #[.slice lo l.length lc, .int .i64 er]) ∧ w'.ownsRow w.heap.size 52 4 (.slice lo l.length lc) l.length (pgCs vr l) ∧ Same w w') : LayIs vr l er w e w' := by
  obtain ⟨lo, lc, h1, h2, h3⟩ := h
  exact ⟨⟨lo, lc, h1, h2⟩, h3⟩
theorem lay_no {p q op : Int} {vr n pgs : Nat} {M ML : List Bt} (h : layOk p q op vr n pgs M ML = false) : layL p q op vr n pgs M ML = [] ∧ layE p q op vr n pgs M ML = 2 := by
  unfold layL layE
  rw [h]
  exact ⟨rfl, rfl⟩
theorem lay_yes {p q op : Int} {vr n pgs : Nat} {M ML : List Bt} (h : layOk p q op vr n pgs M ML = true) : layL p q op vr n pgs M ML = laidP p q (ML ++ M.drop op.toNat) ML.length ∧ layE p q op vr n pgs M ML = 0 := by
  unfold layL layE
  rw [h]
  exact ⟨rfl, rfl⟩
/-- Lay, of a chain and lists that were lent. -/
theorem flay_all {p q op : Int} {vr n c g gl lc pgs : Nat} {tr : Value} {M ML : List Bt} (w : World) (hM : BvRow w (some ⟨g, 0, none⟩) g 0 M) (hML : BvRow w (some ⟨gl, 0, none⟩) gl 0 ML) (hn : n = M.length) (hnc : n < c) (hwt : wt M + wt ML ≤ 1048576) :
    Calls Try.prog 16 #[frameV p q, .int .u64 (vr : Int), .slice (some ⟨g, 0, none⟩) n c, .agg #[tr, .slice (some ⟨gl, 0, none⟩) ML.length lc, .int .i64 op, .int .u32 (pgs : Int)]] w fun e w' => LayIs vr (layL p q op vr n pgs M ML) (layE p q op vr n pgs M ML) w e w' := by
  have no : layOk p q op vr n pgs M ML = false → ∀ e w', (∃ lo lc, e = .returned (.tuple #[.slice lo ([] : List Pgx).length lc, .int .i64 2]) ∧ w'.ownsRow w.heap.size 52 4 (.slice lo ([] : List Pgx).length lc) ([] : List Pgx).length (pgCs vr []) ∧ Same w w') → LayIs vr (layL p q op vr n pgs M ML) (layE p q op vr n pgs M ML) w e w' := fun h e w' h1 => by
    obtain ⟨e1, e2⟩ := lay_no h
    rw [e1, e2]
    exact layIs_of h1
  by_cases h1 : vr < 1
  · exact (flya w h1).mono (no (by unfold layOk; rw [decide_eq_false (show ¬ 1 ≤ vr by omega)]; rfl))
  · by_cases h2 : 1099511627776 < vr
    · exact (flyb w h2).mono (no (by unfold layOk; rw [decide_eq_false (show ¬ vr ≤ 1099511627776 by omega), Bool.and_false]; rfl))
    · by_cases h3 : op < 0
      · exact (flyc w (by omega) (by omega) h3).mono (no (by unfold layOk; rw [decide_eq_false (show ¬ 0 ≤ op by omega), Bool.and_false]; rfl))
      · by_cases h4 : (n : Int) < op
        · exact (flyd w (by omega) (by omega) h4).mono (no (by unfold layOk; rw [decide_eq_false (show ¬ op ≤ (n : Int) by omega), Bool.and_false]; rfl))
        · obtain ⟨k, rfl⟩ := Int.eq_ofNat_of_zero_le (show 0 ≤ op by omega)
          have hk : k ≤ n := by omega
          have hw2 : wt (ML ++ M.drop k) ≤ 1048576 := by rw [wt_app]; have := wt_drop M k; omega
          by_cases h5 : chkE p q pgs (ML ++ M.drop k) = 0
          · have hy : layOk p q (k : Int) vr n pgs M ML = true := by
              unfold layOk
              rw [Int.toNat_natCast, decide_eq_true h5, decide_eq_true (show 1 ≤ vr by omega), decide_eq_true (show vr ≤ 1099511627776 by omega), decide_eq_true (show (0 : Int) ≤ (k : Int) by omega), decide_eq_true (show (k : Int) ≤ (n : Int) by omega)]
              rfl
            refine (flyf w hM hML hn rfl hnc hw2 (by omega) (by omega) hk h5).mono fun e w' h => ?_
            obtain ⟨e1, e2⟩ := lay_yes hy
            rw [e1, e2, Int.toNat_natCast]
            exact layIs_of h
          · exact (flye w hM hML hn rfl hnc hw2 (by omega) (by omega) hk h5).mono (no (by unfold layOk; rw [Int.toNat_natCast, decide_eq_false h5, Bool.and_false]))
/-- The document's Lay. -/
theorem dlay_all {p q op : Int} {vr n c pb po lb lo0 llc pgs : Nat} {pa la : Option Addr} {tr : Value} {M ML : List Bt} (w : World) (hM : BiRow w pa pb po M) (hML : BiRow w la lb lo0 ML) (hn : n = M.length) (hwt : wt M + wt ML ≤ 1048576) :
    Calls Try.prog 15 #[frameV p q, .int .u64 (vr : Int), .slice pa n c, .agg #[tr, .slice la ML.length llc, .int .i64 op, .int .u32 (pgs : Int)]] w fun e w' => LayIs vr (layL p q op vr n pgs M ML) (layE p q op vr n pgs M ML) w e w' := by
  have no : layOk p q op vr n pgs M ML = false → ∀ e w', (∃ lo lc, e = .returned (.tuple #[.slice lo ([] : List Pgx).length lc, .int .i64 2]) ∧ w'.ownsRow w.heap.size 52 4 (.slice lo ([] : List Pgx).length lc) ([] : List Pgx).length (pgCs vr []) ∧ Same w w') → LayIs vr (layL p q op vr n pgs M ML) (layE p q op vr n pgs M ML) w e w' := fun h e w' h1 => by
    obtain ⟨e1, e2⟩ := lay_no h
    rw [e1, e2]
    exact layIs_of h1
  have hm : ∀ W, Calls Try.prog 28 #[.agg #[.int .i64 p, .int .i64 q]] W fun e w' => e = .returned (.bool (frameP p q)) ∧ Same W w' := rframe_calls p q
  cases hf : frameP p q with
  | false =>
    rw [hf] at hm
    exact (dlya w hm).mono (no (by
      have h5 : ¬ chkE p q pgs (ML ++ M.drop op.toNat) = 0 := by unfold chkE; rw [if_pos hf]; decide
      unfold layOk; rw [decide_eq_false h5, Bool.and_false]))
  | true =>
    rw [hf] at hm
    by_cases h1 : vr < 1
    · exact (dlyb w hm h1).mono (no (by unfold layOk; rw [decide_eq_false (show ¬ 1 ≤ vr by omega)]; rfl))
    · by_cases h2 : 1099511627776 < vr
      · exact (dlyc w hm h2).mono (no (by unfold layOk; rw [decide_eq_false (show ¬ vr ≤ 1099511627776 by omega), Bool.and_false]; rfl))
      · by_cases h3 : op < 0
        · exact (dlyd w hm (by omega) (by omega) h3).mono (no (by unfold layOk; rw [decide_eq_false (show ¬ 0 ≤ op by omega), Bool.and_false]; rfl))
        · by_cases h4 : (n : Int) < op
          · exact (dlye w hm (by omega) (by omega) h4).mono (no (by unfold layOk; rw [decide_eq_false (show ¬ op ≤ (n : Int) by omega), Bool.and_false]; rfl))
          · obtain ⟨k, rfl⟩ := Int.eq_ofNat_of_zero_le (show 0 ≤ op by omega)
            have hk : k ≤ n := by omega
            by_cases h5 : chkE p q pgs (ML ++ M.drop k) = 0
            · have hy : layOk p q (k : Int) vr n pgs M ML = true := by
                unfold layOk
                rw [Int.toNat_natCast, decide_eq_true h5, decide_eq_true (show 1 ≤ vr by omega), decide_eq_true (show vr ≤ 1099511627776 by omega), decide_eq_true (show (0 : Int) ≤ (k : Int) by omega), decide_eq_true (show (k : Int) ≤ (n : Int) by omega)]
                rfl
              refine (dlyg w hm hM hML hn rfl hwt (by omega) (by omega) hk h5).mono fun e w' h => ?_
              obtain ⟨e1, e2⟩ := lay_yes hy
              rw [e1, e2, Int.toNat_natCast]
              exact layIs_of h
            · exact (dlyf w hm hM hML hn rfl hwt (by omega) (by omega) hk h5).mono (no (by unfold layOk; rw [Int.toNat_natCast, decide_eq_false h5, Bool.and_false]))
/-- A chain that says the same is laid alike. -/
theorem layOk_key {p q op : Int} {vr n pgs : Nat} {M ML M' ML' : List Bt} (h1 : M'.map Bt.key = M.map Bt.key) (h2 : ML'.map Bt.key = ML.map Bt.key) : layOk p q op vr n pgs M' ML' = layOk p q op vr n pgs M ML := by
  have h : (ML' ++ M'.drop op.toNat).map Bt.key = (ML ++ M.drop op.toNat).map Bt.key := by rw [List.map_append, List.map_append, List.map_drop, List.map_drop, h1, h2]
  unfold layOk
  rw [chkE_key h]
theorem layL_key {p q op : Int} {vr n pgs : Nat} {M ML M' ML' : List Bt} (h1 : M'.map Bt.key = M.map Bt.key) (h2 : ML'.map Bt.key = ML.map Bt.key) : layL p q op vr n pgs M' ML' = layL p q op vr n pgs M ML ∧ layE p q op vr n pgs M' ML' = layE p q op vr n pgs M ML := by
  have h : (ML' ++ M'.drop op.toNat).map Bt.key = (ML ++ M.drop op.toNat).map Bt.key := by rw [List.map_append, List.map_append, List.map_drop, List.map_drop, h1, h2]
  have hl : ML'.length = ML.length := by have := congrArg List.length h2; simpa using this
  unfold layL layE
  rw [layOk_key h1 h2, laidP_key h, hl]
  exact ⟨rfl, rfl⟩
end Go.Proofs.Ytneopkhkkfckcaa
namespace Go.Proofs.Ytneopkhkkfckcaa

section
variable {P : Program} {ops : Array Oper} {Q : Exit → Act → World → Prop} {a0 a : Act} {w : World} {o : Oper} {env : List (Nat × Value)} {md : Region.Mode} {S : World → Prop} {fuel i : Nat} {listed : Array Bool} {K : Act → World → Prop}
theorem Fe.kVal {w' : World} (h : Fe a0 env a) (hK : Shut (∀ a w, S w → (S w → wpAnyH P md ops Q S fuel (listed.setIfInBounds i true) a w) → K a w)) (d : Nat) (v : Value) (hd : o.dst = some d) (hb : d < a0.tmps.size) (hw : Region.wanted o (yielded ops a.tmps) = true)
    (hrun : (execOp a.eval o).run P w = .ok (.value v) w') (hS : S w') (k : ∀ a', Fe a0 ((d, v) :: env) a' → wpAnyH P md ops Q S fuel (listed.setIfInBounds i true) a' w') : if Region.wanted o (yielded ops a.tmps) = true then Oper.wp P o a w K Q else K (a.put o.dst undef) w := by
  rw [if_pos hw]
  unfold Oper.wp
  rw [hrun]
  show K (a.put o.dst v) w'
  rw [hd]
  exact hK.out _ _ hS (fun _ => k _ (h.push hb v))
theorem Fe.kCall {f : FuncId} {args : Array Value} {R : Ending → World → Prop} (h : Fe a0 env a) (hK : Shut (∀ a w, S w → (S w → wpAnyH P md ops Q S fuel (listed.setIfInBounds i true) a w) → K a w)) (d : Nat) (hd : o.dst = some d) (hb : d < a0.tmps.size) (hw : Region.wanted o (yielded ops a.tmps) = true)
    (hrun : (execOp a.eval o).run P w = .ok (.enter f args) w) (hc : Calls P f args w R)
    (k : ∀ e w', R e w' → ∃ v, e = .returned v ∧ S w' ∧ ∀ a', Fe a0 ((d, v) :: env) a' → wpAnyH P md ops Q S fuel (listed.setIfInBounds i true) a' w') : if Region.wanted o (yielded ops a.tmps) = true then Oper.wp P o a w K Q else K (a.put o.dst undef) w := by
  rw [if_pos hw]
  unfold Oper.wp
  rw [hrun, Oper.upon_enter]
  refine hc.mono fun e w' hR => ?_
  obtain ⟨v, rfl, hS, hk⟩ := k e w' hR
  show K (a.put o.dst v) w'
  rw [hd]
  exact hK.out _ _ hS (fun _ => hk _ (h.push hb v))
/-- A whole struct stored into a block of its own, the last that may come up. -/
theorem Fe.oneStore (h : Fe a0 env a) (i : Nat) (hr : Region.ready md ops listed = [i]) (hi : ops[i]? = some o) (hd : o.dst = none) (hgd : o.guard = none) (ty : TypeId) (x y : Operand) (ho : o.op = .store ty x y)
    (b : Nat) (cells old : Array Value) (t : TypeId) (hx : a.eval x = .pointer (some ⟨b, 0, none⟩)) (hy : a.eval y = .agg cells) (hb : w.heap[b]? = some (.cells old t (0, 0))) (hl : old.size = cells.size)
    (hif : (P.info? ty).map (·.size) = some cells.size) (h1 : cells.all (·.oneCell') = true)
    (k : ∀ w', w'.heap[b]? = some (.cells cells t (0, 0)) → Fr (fun k => k = b) w w' → S w' ∧ ∀ a', Fe a0 env a' → wpAnyH P md ops Q S fuel (listed.setIfInBounds i true) a' w') : wpAnyH P md ops Q S (fuel + 1) listed a w := by
  refine wpAnyH_ready hr (by simp) (AllReadyH.cons hi (fun K hK => ?_) AllReadyH.nil)
  have hw : Region.wanted o (yielded ops a.tmps) = true := wanted_none hgd
  rw [if_pos hw]
  have hth : w.there b 0 cells.size := there_row hb hl.symm
  have hrow := setCells_whole cells.toList old hb (by rw [hl, Array.length_toList]) (by rw [Array.length_toList]; exact hth)
  rw [Array.toArray_toList] at hrow
  obtain ⟨hS, hk⟩ := k _ hrow (Fr.setCells (S := fun k => k = b) (fun _ => rfl) _ 0 w (Fr.refl _ w))
  refine wp_store_mid ty x y ho b 0 cells hx hy hth hif h1 ?_
  rw [hd]
  exact hK.out _ _ hS (fun _ => hk _ h)
end
end Go.Proofs.Ytneopkhkkfckcaa
