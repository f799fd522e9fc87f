/- The document's Pick; MetaPicks. -/
import Derived.Test.YtjfkkjangebblaaDoorMRJ
import Derived.Test.YtjfkkjangebblaaDoorMRK
import Derived.Test.YtjfkkjangebblaaDoorMRL
namespace Go.Proofs.YtjfkkjangebblaaDoor
open Go.RowKit

theorem dec_cases (p q : Int) (x : ByteArray) : (decK p q x = 1 ∧ 1 ≤ (decR p q x).v) ∨ (¬ decK p q x = 1 ∧ decR p q x = zeroRec) := by
  unfold decK decR
  by_cases hb : decB p q x = true
  · rw [if_pos hb, if_pos hb]
    rcases slotK_cases p q (sectS p x) with ⟨_, hk, hr⟩ | ⟨_, _, hk, hr⟩ | ⟨_, _, _, hk, hr⟩ | ⟨_, hl, _, hk, hr⟩
    · exact Or.inr ⟨by omega, hr⟩
    · exact Or.inr ⟨by omega, hr⟩
    · exact Or.inr ⟨by omega, hr⟩
    · refine Or.inl ⟨hk, ?_⟩
      unfold laidM at hl
      rw [Bool.and_eq_true] at hl
      have := (mayM_parts hl.1).2.1
      unfold numP at this
      simp only [Bool.and_eq_true, decide_eq_true_eq] at this
      rw [hr]
      exact this.1.1.1.1.1.1
  · rw [if_neg hb, if_neg hb]
    exact Or.inr ⟨by omega, rfl⟩
theorem cnt_zero (pages : Int) : cntR zeroRec pages = zeroRec := by unfold cntR; split <;> rfl
theorem recEq_pos' {M : Rec} (h : 1 ≤ M.v) : recEq M zeroRec = false := by
  rw [Bool.eq_false_iff]
  intro e
  rw [(recEq_iff M zeroRec).1 e] at h
  exact absurd h (by decide)
/-- The slot counts: a record, of pages that are there. -/
def Cnt (p q pages : Int) (x : ByteArray) : Prop := decK p q x = 1 ∧ ((decR p q x).pg : Int) ≤ pages
theorem cnt_yes {p q pages : Int} {x : ByteArray} (h : Cnt p q pages x) : cntR (decR p q x) pages = decR p q x ∧ 1 ≤ (decR p q x).v := by
  refine ⟨by unfold cntR; rw [if_neg (by have := h.2; omega)], ?_⟩
  rcases dec_cases p q x with ⟨_, h1⟩ | ⟨h1, _⟩
  · exact h1
  · exact absurd h.1 h1
theorem cnt_no {p q pages : Int} {x : ByteArray} (h : ¬ Cnt p q pages x) : cntR (decR p q x) pages = zeroRec := by
  rcases dec_cases p q x with ⟨h0, h1⟩ | ⟨_, h1⟩
  · unfold cntR
    rw [if_pos]
    by_cases hh : ((decR p q x).pg : Int) ≤ pages
    · exact absurd ⟨h0, hh⟩ h
    · omega
  · rw [h1]; exact cnt_zero pages
theorem pick_base {p q pages : Int} {z o : ByteArray} (hf : frameP p q = true) (hp : ¬ pages < 2) (hz : decB p q z = true) (ho : decB p q o = true) :
    pickT p q pages z o = if recEq (newR (cntR (decR p q z) pages) (cntR (decR p q o) pages)) zeroRec = false then (newR (cntR (decR p q z) pages) (cntR (decR p q o) pages), newN (cntR (decR p q z) pages) (cntR (decR p q o) pages), 0)
      else if decK p q z = 2 ∨ decK p q o = 2 then (zeroRec, 0, 60) else if decK p q z = 0 ∧ decK p q o = 0 then (emptyRec, 0, 0) else (zeroRec, 0, 61) := by
  unfold pickT
  rw [if_neg (by rw [hf]; simp), if_neg hp, if_neg (by rw [hz]; simp), if_neg (by rw [ho]; simp)]
theorem pick_firstD {p q pages : Int} {z o : ByteArray} (hf : frameP p q = true) (hp : ¬ pages < 2) (hz : decB p q z = true) (ho : decB p q o = true) (h1 : Cnt p q pages z) (h2 : ¬ Cnt p q pages o ∨ (decR p q o).v ≤ (decR p q z).v) : pickT p q pages z o = (decR p q z, 1, 0) := by
  rw [pick_base hf hp hz ho, (cnt_yes h1).1]
  have hv := (cnt_yes h1).2
  have hc : (cntR (decR p q o) pages).v ≤ (decR p q z).v := by
    by_cases h : Cnt p q pages o
    · rw [(cnt_yes h).1]
      rcases h2 with h2 | h2
      · exact absurd h h2
      · exact h2
    · rw [cnt_no h]; exact Nat.zero_le _
  have e1 : newR (decR p q z) (cntR (decR p q o) pages) = decR p q z := by unfold newR; rw [if_neg (by omega)]
  have e2 : newN (decR p q z) (cntR (decR p q o) pages) = 1 := by unfold newN; rw [if_neg (by omega)]
  rw [e1, e2, if_pos (recEq_pos' hv)]
theorem pick_secondD {p q pages : Int} {z o : ByteArray} (hf : frameP p q = true) (hp : ¬ pages < 2) (hz : decB p q z = true) (ho : decB p q o = true) (h1 : Cnt p q pages o) (h2 : ¬ Cnt p q pages z ∨ (decR p q z).v < (decR p q o).v) : pickT p q pages z o = (decR p q o, 0, 0) := by
  rw [pick_base hf hp hz ho, (cnt_yes h1).1]
  have hv := (cnt_yes h1).2
  have hc : (cntR (decR p q z) pages).v < (decR p q o).v := by
    by_cases h : Cnt p q pages z
    · rw [(cnt_yes h).1]
      rcases h2 with h2 | h2
      · exact absurd h h2
      · exact h2
    · rw [cnt_no h]; exact hv
  have e1 : newR (cntR (decR p q z) pages) (decR p q o) = decR p q o := by unfold newR; rw [if_pos hc]
  have e2 : newN (cntR (decR p q z) pages) (decR p q o) = 0 := by unfold newN; rw [if_pos hc]
  rw [e1, e2, if_pos (recEq_pos' hv)]
theorem pick_noneD {p q pages : Int} {z o : ByteArray} (hf : frameP p q = true) (hp : ¬ pages < 2) (hz : decB p q z = true) (ho : decB p q o = true) (h1 : ¬ Cnt p q pages z) (h2 : ¬ Cnt p q pages o) :
    pickT p q pages z o = if decK p q z = 2 ∨ decK p q o = 2 then (zeroRec, 0, 60) else if decK p q z = 0 ∧ decK p q o = 0 then (emptyRec, 0, 0) else (zeroRec, 0, 61) := by
  rw [pick_base hf hp hz ho, cnt_no h1, cnt_no h2]
  have e1 : newR zeroRec zeroRec = zeroRec := by unfold newR; split <;> rfl
  rw [e1, if_neg (by rw [recEq_self]; simp)]
theorem beqN (a b : Nat) : ((a : Int) == (b : Int)) = decide (a = b) := by rw [Bool.eq_iff_iff, beq_iff_eq, decide_eq_true_eq]; omega
theorem rpick_calls (p q pages : Int) (z o : ByteArray) (w : World) :
    Calls Tryd.prog 13 #[frameV p q, .string z, .string o, .int .i64 pages] w fun e w' => e = .returned (.tuple #[metaV (pickT p q pages z o).1, .int .u32 (pickT p q pages z o).2.1, .int .i64 (pickT p q pages z o).2.2]) ∧ Same w w' := by
  have HF := rframe_calls p q
  have hzn : ¬ zeroRec.arr = #[] := by intro h; have := congrArg Array.size h; revert this; decide
  rcases (Bool.eq_false_or_eq_true (frameP p q)).symm with hf | hf
  · rw [hf] at HF
    have e : pickT p q pages z o = (zeroRec, 0, 2) := by unfold pickT; rw [if_pos hf]
    rw [e]
    exact rpick_frame w zeroRec_lit rfl (arr_one _) HF
  rw [hf] at HF
  by_cases hp : pages < 2
  · have e : pickT p q pages z o = (emptyRec, 0, 0) := by unfold pickT; rw [if_neg (by rw [hf]; simp), if_pos hp]
    rw [e]
    exact rpick_few w zeroRec_lit rfl HF hp empty_lit hzn rfl (arr_one _)
  have hB : ∀ x : ByteArray, decB p q x = decide ((x.size : Int) = p) := fun x => by unfold decB; rw [hf, Bool.true_and]
  rcases (Bool.eq_false_or_eq_true (decB p q z)).symm with hz' | hz
  · have hz : ¬ decB p q z = true := by rw [hz']; simp
    have e : pickT p q pages z o = (zeroRec, 0, 2) := by unfold pickT; rw [if_neg (by rw [hf]; simp), if_neg hp, if_pos hz']
    rw [e]
    exact rpick_sizes w zeroRec_lit rfl (arr_one _) HF hp (Or.inl (by rw [bne_iff_ne]; rw [hB, decide_eq_true_eq] at hz; exact hz))
  have hz2 := (decB_parts hz).2
  rcases (Bool.eq_false_or_eq_true (decB p q o)).symm with ho' | ho
  · have ho : ¬ decB p q o = true := by rw [ho']; simp
    have e : pickT p q pages z o = (zeroRec, 0, 2) := by unfold pickT; rw [if_neg (by rw [hf]; simp), if_neg hp, if_neg (by rw [hz]; simp), if_pos ho']
    rw [e]
    exact rpick_sizes w zeroRec_lit rfl (arr_one _) HF hp (Or.inr ⟨by rw [hz2]; simp, by rw [bne_iff_ne]; rw [hB, decide_eq_true_eq] at ho; exact ho⟩)
  have ho2 := (decB_parts ho).2
  have ka := decR_ok p q z
  have kb := decR_ok p q o
  have HZ := slot_calls hf z hz2
  have HO := slot_calls hf o ho2
  rw [show slotR p q (sectS p z) = decR p q z from by unfold decR; rw [if_pos hz], show slotK p q (sectS p z) = decK p q z from by unfold decK; rw [if_pos hz]] at HZ
  rw [show slotR p q (sectS p o) = decR p q o from by unfold decR; rw [if_pos ho], show slotK p q (sectS p o) = decK p q o from by unfold decK; rw [if_pos ho]] at HO
  have HCA : ∀ (W : World) (g : Nat), W.heap[g]? = some (.cells (decR p q z).arr 34 (0, 0)) → W.cell? ⟨g, 0, none⟩ = some (.int .u64 (decR p q z).v) ∧ W.cell? ⟨g, 37, none⟩ = some (.int .u32 (decR p q z).pg) := fun W g h => by
    have h : MAt W g (decR p q z) := h
    exact ⟨(h.cells ka.d).1, (h.cells ka.d).2.2.2.2.2⟩
  have HCB : ∀ (W : World) (g : Nat), W.heap[g]? = some (.cells (decR p q o).arr 34 (0, 0)) → W.cell? ⟨g, 0, none⟩ = some (.int .u64 (decR p q o).v) ∧ W.cell? ⟨g, 37, none⟩ = some (.int .u32 (decR p q o).pg) := fun W g h => by
    have h : MAt W g (decR p q o) := h
    exact ⟨(h.cells kb.d).1, (h.cells kb.d).2.2.2.2.2⟩
  have n1 : ((z.size : Int) != p) = false := by rw [hz2]; simp
  have n2 : ((o.size : Int) != p) = false := by rw [ho2]; simp
  have bJ : ∀ k : Nat, (((decK p q z : Nat) : Int) == (k : Int)) = decide (decK p q z = k) := fun k => beqN _ _
  have bK : ∀ k : Nat, (((decK p q o : Nat) : Int) == (k : Int)) = decide (decK p q o = k) := fun k => beqN _ _
  have J1 := bJ 1
  have K1 := bK 1
  have J2 := bJ 2
  have K2 := bK 2
  have J0 := bJ 0
  have K0 := bK 0
  by_cases h1 : Cnt p q pages z
  · have x1 : (((decK p q z : Nat) : Int) == 1) = true := by rw [show (1 : Int) = ((1 : Nat) : Int) from rfl, J1, decide_eq_true h1.1]
    by_cases h2 : Cnt p q pages o
    · have y1 : (((decK p q o : Nat) : Int) == 1) = true := by rw [show (1 : Int) = ((1 : Nat) : Int) from rfl, K1, decide_eq_true h2.1]
      by_cases hv : (decR p q o).v ≤ (decR p q z).v
      · rw [pick_firstD hf hp hz ho h1 (Or.inr hv)]
        exact rpick_first w zeroRec_lit rfl HF hp n1 n2 (arr_size _ ka.d) (arr_one _) (arr_size _ kb.d) (arr_one _) ka.pg kb.pg HZ HO HCA HCB (Or.inr (Or.inr ⟨x1, h1.2, y1, h2.2, by omega⟩))
      · rw [pick_secondD hf hp hz ho h2 (Or.inr (by omega))]
        exact rpick_second w zeroRec_lit rfl HF hp n1 n2 (arr_size _ ka.d) (arr_one _) (arr_size _ kb.d) (arr_one _) ka.pg kb.pg HZ HO HCA HCB (Or.inr (Or.inr ⟨x1, h1.2, y1, h2.2, by omega⟩))
    · rw [pick_firstD hf hp hz ho h1 (Or.inl h2)]
      refine rpick_first w zeroRec_lit rfl HF hp n1 n2 (arr_size _ ka.d) (arr_one _) (arr_size _ kb.d) (arr_one _) ka.pg kb.pg HZ HO HCA HCB ?_
      by_cases hk : decK p q o = 1
      · exact Or.inr (Or.inl ⟨x1, h1.2, by rw [show (1 : Int) = ((1 : Nat) : Int) from rfl, K1, decide_eq_true hk], fun h => h2 ⟨hk, h⟩⟩)
      · exact Or.inl ⟨x1, h1.2, by rw [show (1 : Int) = ((1 : Nat) : Int) from rfl, K1, decide_eq_false hk]⟩
  · by_cases h2 : Cnt p q pages o
    · have y1 : (((decK p q o : Nat) : Int) == 1) = true := by rw [show (1 : Int) = ((1 : Nat) : Int) from rfl, K1, decide_eq_true h2.1]
      rw [pick_secondD hf hp hz ho h2 (Or.inl h1)]
      refine rpick_second w zeroRec_lit rfl HF hp n1 n2 (arr_size _ ka.d) (arr_one _) (arr_size _ kb.d) (arr_one _) ka.pg kb.pg HZ HO HCA HCB ?_
      by_cases hk : decK p q z = 1
      · exact Or.inr (Or.inl ⟨by rw [show (1 : Int) = ((1 : Nat) : Int) from rfl, J1, decide_eq_true hk], decide_eq_false (fun h => h1 ⟨hk, h⟩), y1, h2.2⟩)
      · exact Or.inl ⟨by rw [show (1 : Int) = ((1 : Nat) : Int) from rfl, J1, decide_eq_false hk], y1, h2.2⟩
    · rw [pick_noneD hf hp hz ho h1 h2]
      have za : decK p q z = 1 → ¬ ((decR p q z).pg : Int) ≤ pages := fun h e => h1 ⟨h, e⟩
      have zb : decK p q o = 1 → ¬ ((decR p q o).pg : Int) ≤ pages := fun h e => h2 ⟨h, e⟩
      have oJ : ∀ k : Nat, decK p q z = k → ((decK p q z : Nat) : Int) = (k : Int) := fun k h => by rw [h]
      have oK : ∀ k : Nat, decK p q o = k → ((decK p q o : Nat) : Int) = (k : Int) := fun k h => by rw [h]
      have tJ : ∀ k : Nat, decK p q z = k → (((decK p q z : Nat) : Int) == (k : Int)) = true := fun k h => by rw [bJ, decide_eq_true h]
      have fJ : ∀ k : Nat, ¬ decK p q z = k → (((decK p q z : Nat) : Int) == (k : Int)) = false := fun k h => by rw [bJ, decide_eq_false h]
      have tK : ∀ k : Nat, decK p q o = k → (((decK p q o : Nat) : Int) == (k : Int)) = true := fun k h => by rw [bK, decide_eq_true h]
      have fK : ∀ k : Nat, ¬ decK p q o = k → (((decK p q o : Nat) : Int) == (k : Int)) = false := fun k h => by rw [bK, decide_eq_false h]
      clear bJ bK J1 K1 J2 K2 J0 K0
      by_cases hj1 : decK p q z = 1
      · by_cases hk1 : decK p q o = 1
        · rw [if_neg (by omega), if_neg (by omega)]
          exact rpick_bad w zeroRec_lit rfl (arr_one _) HF hp n1 n2 (arr_size _ ka.d) (arr_one _) (arr_size _ kb.d) (arr_one _) ka.pg kb.pg HZ HO HCA HCB (Or.inr (Or.inr (Or.inr (Or.inr (Or.inr ⟨oJ 1 hj1, decide_eq_false (za hj1), oK 1 hk1, decide_eq_false (zb hk1)⟩)))))
        · by_cases hk2 : decK p q o = 2
          · rw [if_pos (Or.inr hk2)]
            exact rpick_foreign w zeroRec_lit rfl (arr_one _) HF hp n1 n2 (arr_size _ ka.d) (arr_one _) (arr_size _ kb.d) (arr_one _) ka.pg kb.pg HZ HO HCA HCB (Or.inr (Or.inr (Or.inr ⟨oJ 1 hj1, decide_eq_false (za hj1), fK 1 hk1, tK 2 hk2⟩)))
          · rw [if_neg (by omega), if_neg (by omega)]
            exact rpick_bad w zeroRec_lit rfl (arr_one _) HF hp n1 n2 (arr_size _ ka.d) (arr_one _) (arr_size _ kb.d) (arr_one _) ka.pg kb.pg HZ HO HCA HCB (Or.inr (Or.inr (Or.inr (Or.inr (Or.inl ⟨oJ 1 hj1, decide_eq_false (za hj1), fK 1 hk1, fK 2 hk2⟩)))))
      · by_cases hj2 : decK p q z = 2
        · rw [if_pos (Or.inl hj2)]
          refine rpick_foreign w zeroRec_lit rfl (arr_one _) HF hp n1 n2 (arr_size _ ka.d) (arr_one _) (arr_size _ kb.d) (arr_one _) ka.pg kb.pg HZ HO HCA HCB ?_
          by_cases hk1 : decK p q o = 1
          · exact Or.inr (Or.inr (Or.inl ⟨fJ 1 hj1, oK 1 hk1, decide_eq_false (zb hk1), tJ 2 hj2⟩))
          · exact Or.inl ⟨fJ 1 hj1, fK 1 hk1, tJ 2 hj2⟩
        · by_cases hk1 : decK p q o = 1
          · rw [if_neg (by omega), if_neg (by omega)]
            refine rpick_bad w zeroRec_lit rfl (arr_one _) HF hp n1 n2 (arr_size _ ka.d) (arr_one _) (arr_size _ kb.d) (arr_one _) ka.pg kb.pg HZ HO HCA HCB ?_
            by_cases hj0 : decK p q z = 0
            · exact Or.inr (Or.inr (Or.inr (Or.inl ⟨fJ 1 hj1, oK 1 hk1, decide_eq_false (zb hk1), fJ 2 hj2, tJ 0 hj0⟩)))
            · exact Or.inr (Or.inr (Or.inl ⟨fJ 1 hj1, oK 1 hk1, decide_eq_false (zb hk1), fJ 2 hj2, fJ 0 hj0⟩))
          · by_cases hk2 : decK p q o = 2
            · rw [if_pos (Or.inr hk2)]
              exact rpick_foreign w zeroRec_lit rfl (arr_one _) HF hp n1 n2 (arr_size _ ka.d) (arr_one _) (arr_size _ kb.d) (arr_one _) ka.pg kb.pg HZ HO HCA HCB (Or.inr (Or.inl ⟨fJ 1 hj1, fK 1 hk1, fJ 2 hj2, tK 2 hk2⟩))
            · rw [if_neg (by omega)]
              by_cases hj0 : decK p q z = 0
              · by_cases hk0 : decK p q o = 0
                · rw [if_pos ⟨hj0, hk0⟩]
                  exact rpick_blank w zeroRec_lit rfl HF hp n1 n2 (arr_size _ ka.d) (arr_one _) (arr_size _ kb.d) (arr_one _) ka.pg kb.pg HZ HO HCA HCB empty_lit hzn rfl (arr_one _) ⟨fJ 1 hj1, fK 1 hk1, fJ 2 hj2, fK 2 hk2, tJ 0 hj0, tK 0 hk0⟩
                · rw [if_neg (by omega)]
                  exact rpick_bad w zeroRec_lit rfl (arr_one _) HF hp n1 n2 (arr_size _ ka.d) (arr_one _) (arr_size _ kb.d) (arr_one _) ka.pg kb.pg HZ HO HCA HCB (Or.inr (Or.inl ⟨fJ 1 hj1, fK 1 hk1, fJ 2 hj2, fK 2 hk2, tJ 0 hj0, fK 0 hk0⟩))
              · rw [if_neg (by omega)]
                exact rpick_bad w zeroRec_lit rfl (arr_one _) HF hp n1 n2 (arr_size _ ka.d) (arr_one _) (arr_size _ kb.d) (arr_one _) ka.pg kb.pg HZ HO HCA HCB (Or.inl ⟨fJ 1 hj1, fK 1 hk1, fJ 2 hj2, fK 2 hk2, fJ 0 hj0⟩)

set_option maxRecDepth 100000 in
set_option maxHeartbeats 2000000 in
theorem mpicks_core {p q pages : Int} {z o : ByteArray} {ZA R : Array Value} {K : Nat} {E : Int} (w : World) (hzl : (#[.int .u64 0, .int .u32 0, .int .u8 0, .int .u8 0, .int .u8 0, .int .u8 0, .int .u8 0, .int .u8 0, .int .u8 0, .int .u8 0, .int .u8 0, .int .u8 0, .int .u8 0, .int .u8 0, .int .u8 0, .int .u8 0, .int .u8 0, .int .u8 0, .int .u8 0, .int .u8 0, .int .u8 0, .int .u8 0, .int .u8 0, .int .u8 0, .int .u8 0, .int .u8 0, .int .u8 0, .int .u8 0, .int .u8 0, .int .u8 0, .int .u8 0, .int .u8 0, .int .u8 0, .int .u8 0, .int .u64 0, .int .u64 0, .int .u32 0, .int .u32 0] : Array Value) = ZA) (hzs : ZA.size = 38) (hRs : R.size = 38) (hRo : R.all (·.oneCell') = true)
    (hEq : ∀ W : World, (Op.equalIn 10000 34 (.agg R) (.agg R)).run Tryd.prog W = .ok true W)
    (HA : Hid (∀ W, Same w W → Calls Tryd.prog 7 #[] W fun e w' => e = .returned (.bool true) ∧ Same W w'))
    (HR : Hid (∀ W, Calls Tryd.prog 13 #[frameV p q, .string z, .string o, .int .i64 pages] W fun e w' => e = .returned (.tuple #[.agg R, .int .u32 K, .int .i64 E]) ∧ Same W w'))
    (HD : Hid (∀ W, Same w W → Calls Tryd.prog 14 #[frameV p q, .string z, .string o, .int .i64 pages] W fun e w' => e = .returned (.tuple #[.agg R, .int .u32 K, .int .i64 E]) ∧ Same W w')) :
    Calls Tryd.prog 6 #[frameV p q, .agg #[.string z, .string o], .int .i64 pages] w fun e w' => e = .returned (.bool true) ∧ Same w w' := by
  have hzl := hzl
  have hEq := hEq
  have hRz : (Tryd.prog.info? 34).map (·.size) = some R.size := by rw [Tryd.infoM, hRs]
  have hEE : (E == E) = true := by simp
  have hKK : ((K : Int) == (K : Int)) = true := by simp
  have sx : Same w ((w.alloc (.cells #[.int .i64 p, .int .i64 q] 23)).alloc (.cells #[.string z, .string o] 25)) := ((Fr.refl _ w).alloc _).alloc _
  have c0 : ((w.alloc (.cells #[.int .i64 p, .int .i64 q] 23)).alloc (.cells #[.string z, .string o] 25)).cell? ⟨w.heap.size, 0, none⟩ = some (.int .i64 p) := by simp
  have c1 : ((w.alloc (.cells #[.int .i64 p, .int .i64 q] 23)).alloc (.cells #[.string z, .string o] 25)).cell? ⟨w.heap.size, 1, none⟩ = some (.int .i64 q) := by simp
  have z0 : ((w.alloc (.cells #[.int .i64 p, .int .i64 q] 23)).alloc (.cells #[.string z, .string o] 25)).cell? ⟨w.heap.size + 1, 0, none⟩ = some (.string z) := by simp
  have z1 : ((w.alloc (.cells #[.int .i64 p, .int .i64 q] 23)).alloc (.cells #[.string z, .string o] 25)).cell? ⟨w.heap.size + 1, 1, none⟩ = some (.string o) := by simp
  go_enter Tryd.func6, Tryd.ntmps6
  go_wp2_with fail
  generalize ((w.alloc (.cells #[.int .i64 p, .int .i64 q] 23)).alloc (.cells #[.string z, .string o] 25)) = V at *
  refine (HR.out _).mono ?_
  rintro e W1 ⟨rfl, s1⟩
  have c0 := s1.keep c0
  have c1 := s1.keep c1
  have z0 := s1.keep z0
  have z1 := s1.keep z1
  have t1 := sx.trans s1
  clear s1 sx
  go_wp2_with (refine wpList_store_whole (by rfl) 34 _ _ (by rfl) W1.heap.size R ZA 34 (by rfl) (by rfl) (heap_alloc_new W1 _) (by rw [hzs, hRs]) hRz hRo ?_; intro W2 r2 f2; have s2 : Same W1 W2 := Fr.trans ((Fr.refl _ W1).alloc _) f2 (fun i hi e => by omega); have c0 := s2.keep c0; have c1 := s2.keep c1; have z0 := s2.keep z0; have z1 := s2.keep z1; have t2 := t1.trans s2)
  clear f2 s2 t1
  refine (HD.out _ t2).mono ?_
  rintro e W3 ⟨rfl, s3⟩
  have r2 := (s3.block _ (lt_of_heap r2) (fun f => f)).trans r2
  have t3 := t2.trans s3
  clear s3 t2 c0 c1 z0 z1
  go_wp2_with (first | (refine wpList_store_whole (by rfl) 34 _ _ (by rfl) W3.heap.size R ZA 34 (by rfl) (by rfl) (heap_alloc_new W3 _) (by rw [hzs, hRs]) hRz hRo ?_; intro W4 r4 f4; have s4 : Same W3 W4 := Fr.trans ((Fr.refl _ W3).alloc _) f4 (fun i hi e => by omega); have r2 := (s4.block _ (lt_of_heap r2) (fun f => f)).trans r2; have t4 := t3.trans s4) | (refine wpList_load_want (by rfl) 34 _ (by rfl) W3.heap.size (by rfl) 34 R (0, 0) _ r4 Tryd.underlying34 rfl hRz ?_) | (refine wpList_load_want (by rfl) 34 _ (by rfl) W1.heap.size (by rfl) 34 R (0, 0) _ r2 Tryd.underlying34 rfl hRz ?_))
  refine (HA.out _ t4).mono ?_
  rintro e W5 ⟨rfl, s5⟩
  go_wp2_with fail
  go_ret
  exact ⟨rfl, t4.trans s5⟩

theorem pickT_ok (p q pages : Int) (z o : ByteArray) : RecOk (pickT p q pages z o).1 := by
  have ka := cntR_ok (decR_ok p q z) pages
  have kb := cntR_ok (decR_ok p q o) pages
  have kc := newR_ok ka kb
  unfold pickT
  split; exact zeroRec_ok
  split; exact emptyRec_ok
  split; exact zeroRec_ok
  split; exact zeroRec_ok
  split; exact kc
  split; exact zeroRec_ok
  split; exact emptyRec_ok
  exact zeroRec_ok
theorem mpicks_walk (w : World) (ht : TabAt w) (hz : TzAt w) (p q : Int) (z o : ByteArray) (pages : Int) (hb : -9223372036854775808 ≤ pages ∧ pages ≤ 9223372036854775807) :
    Calls Tryd.prog 6 #[frameV p q, .agg #[.string z, .string o], .int .i64 pages] w fun e w' => e = .returned (.bool true) ∧ Same w w' := by
  have hk := pickT_ok p q pages z o
  have hEq := fun W => eq_rec W (pickT p q pages z o).1 (pickT p q pages z o).1 hk.d hk.d
  rw [recEq_self] at hEq
  exact mpicks_core w zeroRec_lit rfl (arr_size _ hk.d) (arr_one _) hEq (fun W h => awake_calls W (ht.same h) (hz.same h)) (rpick_calls p q pages z o) (fun W h => pick_calls p q pages z o hb W (ht.same h) (hz.same h))
end Go.Proofs.YtjfkkjangebblaaDoor
