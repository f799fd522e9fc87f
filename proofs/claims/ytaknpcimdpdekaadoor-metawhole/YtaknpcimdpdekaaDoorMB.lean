/- Pick, whole; what is encoded is decoded. -/
import Derived.Test.YtaknpcimdpdekaaDoorMA
namespace Go.Proofs.YtaknpcimdpdekaaDoor
open Go.RowKit

/-- What Pick answers: the record, the slot, the error. -/
def pickT (p q pages : Int) (z o : ByteArray) : Rec × Nat × Int :=
  if frameP p q = false then (zeroRec, 0, 2) else if pages < 2 then (emptyRec, 0, 0) else if decB p q z = false then (zeroRec, 0, 2) else if decB p q o = false then (zeroRec, 0, 2)
  else if recEq (newR (cntR (decR p q z) pages) (cntR (decR p q o) pages)) zeroRec = false then (newR (cntR (decR p q z) pages) (cntR (decR p q o) pages), newN (cntR (decR p q z) pages) (cntR (decR p q o) pages), 0)
  else if decK p q z = 2 ∨ decK p q o = 2 then (zeroRec, 0, 60) else if decK p q z = 0 ∧ decK p q o = 0 then (emptyRec, 0, 0) else (zeroRec, 0, 61)

theorem natEqF (a b : Nat) (h : ¬ a = b) : ((a : Int) == (b : Int)) = false := by rw [beq_eq_false_iff_ne]; omega
theorem natEqT (a b : Nat) (h : a = b) : ((a : Int) == (b : Int)) = true := by rw [beq_iff_eq]; omega

theorem pick_calls (p q pages : Int) (z o : ByteArray) (hp : -9223372036854775808 ≤ pages ∧ pages ≤ 9223372036854775807) (w : World) (ht : TabAt w) (hz : TzAt w) :
    Calls Tryd.prog 14 #[frameV p q, .string z, .string o, .int .i64 pages] w fun e w' => e = .returned (.tuple #[metaV (pickT p q pages z o).1, .int .u32 (pickT p q pages z o).2.1, .int .i64 (pickT p q pages z o).2.2]) ∧ Same w w' := by
  have hzl := zeroRec_lit
  have hzs : zeroRec.arr.size = 38 := rfl
  have hone := arr_one zeroRec
  have hzv := Tryd.zeroM
  have hes : emptyRec.arr.size = 38 := rfl
  have heo := arr_one emptyRec
  have HF0 := framed_calls p q
  have HZ : ∀ W, Same w W → Calls Tryd.prog 8 #[frameV p q, .string z] W fun e w' => e = .returned (.tuple #[metaV (decR p q z), .int .u8 (decK p q z), .int .i64 (decE p q z)]) ∧ Same W w' := fun W h => decode_calls p q z W (ht.same h) (hz.same h)
  have HO : ∀ W, Same w W → Calls Tryd.prog 8 #[frameV p q, .string o] W fun e w' => e = .returned (.tuple #[metaV (decR p q o), .int .u8 (decK p q o), .int .i64 (decE p q o)]) ∧ Same W w' := fun W h => decode_calls p q o W (ht.same h) (hz.same h)
  by_cases hf : frameP p q = false
  · rw [hf] at HF0
    have e : pickT p q pages z o = (zeroRec, 0, 2) := by unfold pickT; rw [if_pos hf]
    rw [e]
    exact pick_bad w hzl hzs hone hzv HF0
  · have hf' : frameP p q = true := by simpa using hf
    rw [hf'] at HF0
    by_cases hpg : pages < 2
    · have e : pickT p q pages z o = (emptyRec, 0, 0) := by unfold pickT; rw [if_neg hf, if_pos hpg]
      rw [e]
      exact pick_few w hzl hzs hone hzv hes heo HF0 hpg empty_calls
    · by_cases hdz : decB p q z = false
      · have e : pickT p q pages z o = (zeroRec, 0, 2) := by unfold pickT; rw [if_neg hf, if_neg hpg, if_pos hdz]
        have e1 : decR p q z = zeroRec := by unfold decR; rw [hdz]; rfl
        have e2 : decE p q z = 2 := by unfold decE; rw [hdz]; rfl
        rw [e1, e2] at HZ
        rw [e]
        exact pick_zero w hzl hzs hone hzv rfl HF0 hpg HZ
      · have hdz' : decB p q z = true := by simpa using hdz
        have e2 : decE p q z = 0 := by unfold decE; rw [if_pos hdz']
        rw [e2] at HZ
        have oz := decR_ok p q z
        by_cases hdo : decB p q o = false
        · have e : pickT p q pages z o = (zeroRec, 0, 2) := by unfold pickT; rw [if_neg hf, if_neg hpg, if_neg hdz, if_pos hdo]
          have e1 : decR p q o = zeroRec := by unfold decR; rw [hdo]; rfl
          have e3 : decE p q o = 2 := by unfold decE; rw [hdo]; rfl
          rw [e1, e3] at HO
          rw [e]
          exact pick_one w hzl hzs hone hzv (arr_size _ oz.d) (arr_one _) rfl HF0 hpg HZ HO
        · have hdo' : decB p q o = true := by simpa using hdo
          have e3 : decE p q o = 0 := by unfold decE; rw [if_pos hdo']
          rw [e3] at HO
          have oo := decR_ok p q o
          have hT : pickT p q pages z o = if recEq (newR (cntR (decR p q z) pages) (cntR (decR p q o) pages)) zeroRec = false then (newR (cntR (decR p q z) pages) (cntR (decR p q o) pages), newN (cntR (decR p q z) pages) (cntR (decR p q o) pages), 0)
              else if decK p q z = 2 ∨ decK p q o = 2 then (zeroRec, 0, 60) else if decK p q z = 0 ∧ decK p q o = 0 then (emptyRec, 0, 0) else (zeroRec, 0, 61) := by
            unfold pickT; rw [if_neg hf, if_neg hpg, if_neg hdz, if_neg hdo]
          have HC1 := mcounting_calls (decR p q z) oz pages hp
          have HC2 := mcounting_calls (decR p q o) oo pages hp
          have kz := cntR_ok oz pages
          have ko := cntR_ok oo pages
          have HN := newer_calls (cntR (decR p q z) pages) (cntR (decR p q o) pages) kz ko
          have km := newR_ok kz ko
          have hEq := fun W => eq_rec W (newR (cntR (decR p q z) pages) (cntR (decR p q o) pages)) zeroRec km.d rfl
          rw [hT]
          generalize decK p q z = Kz at *
          generalize decK p q o = Ko at *
          generalize newR (cntR (decR p q z) pages) (cntR (decR p q o) pages) = M at *
          generalize newN (cntR (decR p q z) pages) (cntR (decR p q o) pages) = N at *
          generalize hb : recEq M zeroRec = eqb at *
          by_cases hb2 : eqb = false
          · rw [if_pos hb2]
            exact pick_core w hzl hzs hone hzv (arr_size _ oz.d) (arr_one _) (arr_size _ oo.d) (arr_one _) (arr_size _ km.d) (arr_one _) hEq HF0 hpg HZ HO HC1 HC2 HN hb2
          · have hb3 : eqb = true := by simpa using hb2
            rw [if_neg hb2]
            by_cases h2 : Kz = 2 ∨ Ko = 2
            · rw [if_pos h2]
              refine pick_foreign w hzl hzs hone hzv (arr_size _ oz.d) (arr_one _) (arr_size _ oo.d) (arr_one _) (arr_size _ km.d) (arr_one _) hEq HF0 hpg HZ HO HC1 HC2 HN hb3 ?_
              by_cases k : Kz = 2
              · exact Or.inl (natEqT Kz 2 k)
              · exact Or.inr ⟨natEqF Kz 2 k, natEqT Ko 2 (by omega)⟩
            · rw [if_neg h2]
              by_cases h0 : Kz = 0 ∧ Ko = 0
              · rw [if_pos h0]
                exact pick_blank w hzl hzs hone hzv (arr_size _ oz.d) (arr_one _) (arr_size _ oo.d) (arr_one _) (arr_size _ km.d) (arr_one _) hEq HF0 hpg HZ HO HC1 HC2 HN hb3 hes heo empty_calls (natEqF Kz 2 (by omega)) (natEqF Ko 2 (by omega)) (natEqT Kz 0 h0.1) (natEqT Ko 0 h0.2)
              · rw [if_neg h0]
                refine pick_none w hzl hzs hone hzv (arr_size _ oz.d) (arr_one _) (arr_size _ oo.d) (arr_one _) (arr_size _ km.d) (arr_one _) hEq HF0 hpg HZ HO HC1 HC2 HN hb3 (natEqF Kz 2 (by omega)) (natEqF Ko 2 (by omega)) ?_
                by_cases k : Kz = 0
                · exact Or.inr ⟨natEqT Kz 0 k, natEqF Ko 0 (by omega)⟩
                · exact Or.inl (natEqF Kz 0 k)
end Go.Proofs.YtaknpcimdpdekaaDoor
