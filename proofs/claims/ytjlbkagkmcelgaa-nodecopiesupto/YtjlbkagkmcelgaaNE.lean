/- A leaf's pairs read: the closure, List over pairs. -/
import Derived.Test.YtjlbkagkmcelgaaND
import Derived.Test.YtjlbkagkmcelgaaR1
import Derived.Test.YtjlbkagkmcelgaaWO
import Derived.Deep.AppendLies
namespace Go.Proofs.Ytjlbkagkmcelgaa
open Go.RowKit

def rMany {α : Type} (rd : Nat → Nat → α × Nat × Nat) : Nat → Nat → Nat → List α → List α × Nat × Nat
  | 0, p, c, acc => (acc, p, c)
  | n + 1, p, c, acc => if c = 0 then rMany rd n (rd p c).2.1 (rd p c).2.2 (acc ++ [(rd p c).1]) else (acc, p, c)
/-- A list of things: (things, place, fault). -/
def rListG {α : Type} (rd : Nat → Nat → α × Nat × Nat) (s : ByteArray) (p c most : Nat) : List α × Nat × Nat :=
  if (rMany rd (rCount s p c most).1 (rCount s p c most).2.1 (rCount s p c most).2.2 []).2.2 = 0 then rMany rd (rCount s p c most).1 (rCount s p c most).2.1 (rCount s p c most).2.2 [] else ([], (rMany rd (rCount s p c most).1 (rCount s p c most).2.1 (rCount s p c most).2.2 []).2)
def rdPair (pg : Int) (s : ByteArray) (p c : Nat) : (ByteArray × ByteArray) × Nat × Nat :=
  (((rText s p c (pg / 16)).1, (rText s (rText s p c (pg / 16)).2.1 (rText s p c (pg / 16)).2.2 (pg / 8)).1), (rText s (rText s p c (pg / 16)).2.1 (rText s p c (pg / 16)).2.2 (pg / 8)).2)
def pcells (l : List (ByteArray × ByteArray)) : List Value := l.flatMap fun x => [.string x.1, .string x.2]
theorem pcells_append (a b : List (ByteArray × ByteArray)) : pcells (a ++ b) = pcells a ++ pcells b := by simp [pcells]
theorem Try.infPair : (Try.prog.info? 33).map (fun i => (i.zero, i.size, i.bytes)) = some (some (.agg #[.string ⟨#[]⟩, .string ⟨#[]⟩]), 2, 32) := by kernel_rfl
theorem own_frame2 {e : TypeId} {w w' : World} {v : Value} {n sz : Nat} {xs : List Value} {S : Nat → Prop} (h : w.ownsRow 0 e sz v n xs) (hf : Fr S w w') (hn : ∀ k, v.ownBlock = some k → ¬ S k) : w'.ownsRow 0 e sz v n xs := by
  obtain ⟨h1, h2⟩ := h
  refine ⟨h1, ?_⟩
  rcases h2 with h2 | ⟨g, cap, cur, hv, hg, hh, r⟩
  · exact Or.inl h2
  · exact Or.inr ⟨g, cap, cur, hv, hg, by rw [hf.block g (lt_of_heap hh) (hn g (by rw [hv]; rfl))]; exact hh, r⟩
set_option maxRecDepth 100000 in
set_option maxHeartbeats 1000000 in
theorem fn_pair {pg q : Int} (hpg : pg = 1024 ∨ pg = 2048 ∨ pg = 4096 ∨ pg = 8192) {w : World} {b : Nat} {s : ByteArray} {p c : Nat} (h : RdAt w b s p c) (sb : Nat) (hne : sb ≠ b) (h0 : w.cell? ⟨sb, 0, none⟩ = some (.int .i64 pg)) (h1 : w.cell? ⟨sb, 1, none⟩ = some (.int .i64 q)) :
    Calls Try.prog 73 #[.pointer (some ⟨b, 0, none⟩), .pointer (some ⟨sb, 0, none⟩)] w fun e w' => e = .returned (.agg #[.string (rdPair pg s p c).1.1, .string (rdPair pg s p c).1.2]) ∧ RdAt w' b s (rdPair pg s p c).2.1 (rdPair pg s p c).2.2 ∧ RdStep b w w' := by
  have HM : Hid (∀ W, Calls Try.prog 75 #[frameV pg q] W fun e w' => e = .returned (.int .i64 (pg / 16)) ∧ Same W w') := MaxKey_calls hpg
  have HV : Hid (∀ W, Calls Try.prog 54 #[frameV pg q] W fun e w' => e = .returned (.int .i64 (pg / 8)) ∧ Same W w') := MaxVal_calls hpg
  have hle : pg / 16 ≤ 9223372036854775807 ∧ pg / 8 ≤ 9223372036854775807 := by omega
  unfold rdPair
  obtain ⟨mk, hmk⟩ : ∃ mk : Int, mk = pg / 16 := ⟨_, rfl⟩
  obtain ⟨mv, hmv⟩ : ∃ mv : Int, mv = pg / 8 := ⟨_, rfl⟩
  rw [← hmk, ← hmv] at hle ⊢
  rw [← hmk] at HM
  rw [← hmv] at HV
  have HT1 : Hid (∀ W, RdAt W b s p c → Calls Try.prog 74 #[.pointer (some ⟨b, 0, none⟩), .int .i64 mk] W fun e w' => e = .returned (.string (rText s p c mk).1) ∧ RdAt w' b s (rText s p c mk).2.1 (rText s p c mk).2.2 ∧ RdStep b W w') := fun W hW => rtext_calls hW mk hle.1
  obtain ⟨k, p1, c1, e1⟩ : ∃ k p1 c1, rText s p c mk = (k, p1, c1) := ⟨_, _, _, rfl⟩
  rw [e1] at HT1 ⊢
  simp only at HT1 ⊢
  have HT2 : Hid (∀ W, RdAt W b s p1 c1 → Calls Try.prog 74 #[.pointer (some ⟨b, 0, none⟩), .int .i64 mv] W fun e w' => e = .returned (.string (rText s p1 c1 mv).1) ∧ RdAt w' b s (rText s p1 c1 mv).2.1 (rText s p1 c1 mv).2.2 ∧ RdStep b W w') := fun W hW => rtext_calls hW mv hle.2
  obtain ⟨v, p2, c2, e2⟩ : ∃ v p2 c2, rText s p1 c1 mv = (v, p2, c2) := ⟨_, _, _, rfl⟩
  rw [e2] at HT2 ⊢
  simp only at HT2 ⊢
  have hbl := h.lt
  have hpos : sb ≠ w.heap.size := by have := World.block_lt_of_cell? _ _ h0; simp only at this; omega
  have sx : Same w (w.alloc (.cells #[.string ⟨#[]⟩, .string ⟨#[]⟩] 33)) := (Fr.refl _ w).alloc _
  have hv := h.same sx
  have c0 := sx.keep h0
  have d0 := sx.keep h1
  have r0 : (w.alloc (.cells #[.string ⟨#[]⟩, .string ⟨#[]⟩] 33)).heap[w.heap.size]? = some (.cells #[.string ⟨#[]⟩, .string ⟨#[]⟩] 33 (0, 0)) := heap_alloc_new w _
  have HNE : Hid (sb ≠ b) := hne
  have HRES : Hid (∀ (tmps : Array Value) (W : World) (cs : Array Value), W.heap[w.heap.size]? = some (.cells cs 33 (0, 0)) → cs.size = 2 → tmps.getD 3 undef = .pointer (some ⟨w.heap.size, 0, none⟩) → (results Try.f73 tmps).run Try.prog W = .ok (.agg cs) W) := fun tmps W cs hh h2 hp => results_cell_row (p := 3) (ty := 33) (by kernel_rfl) tmps _ w.heap.size 33 _ (0, 0) _ hp hh Try.underlying33 rfl (by rw [h2]; kernel_rfl)
  clear hpg hmk hmv hle e1 e2 h h0 h1 hne
  go_enter Try.func73, Try.ntmps73
  go_wp2_with fail
  generalize w.alloc (.cells #[.string ⟨#[]⟩, .string ⟨#[]⟩] 33) = V at *
  refine (HM.out _).mono ?_
  rintro e W1 ⟨rfl, s1⟩
  go_wp2_with fail
  refine (HT1.out _ (hv.same s1)).mono ?_
  rintro e W2 ⟨rfl, g2, st2⟩
  have y2 : RdStep b V W2 := RdStep.trans (Same.rd s1 b) st2
  have c0 := (Fr.cell (S := fun k => k = b) y2 (p := ⟨sb, 0, none⟩) (World.block_lt_of_cell? _ _ c0) HNE.out).trans c0
  have d0 := (Fr.cell (S := fun k => k = b) y2 (p := ⟨sb, 1, none⟩) (World.block_lt_of_cell? _ _ d0) HNE.out).trans d0
  clear s1 st2
  go_wp2_with fail
  refine (HV.out _).mono ?_
  rintro e W3 ⟨rfl, s3⟩
  go_wp2_with fail
  refine (HT2.out _ (g2.same s3)).mono ?_
  rintro e W4 ⟨rfl, g4, st4⟩
  have y4 : RdStep b V W4 := RdStep.trans (RdStep.trans y2 (Same.rd s3 b)) st4
  have r4 := (y4.block w.heap.size (lt_of_heap r0) (by omega)).trans r0
  obtain ⟨j0, j1, k0, k1⟩ := cell_of_two r4
  clear s3 st4 y2 g2 c0 d0
  go_wp2_with fail
  have r5 : ((W4.setCell ⟨w.heap.size, 0, none⟩ (.string k)).setCell ⟨w.heap.size, 1, none⟩ (.string v)).heap[w.heap.size]? = some (.cells #[.string k, .string v] 33 (0, 0)) := by
    have := heap_setCell_same _ w.heap.size 1 _ _ (.string v) (heap_setCell_same W4 w.heap.size 0 _ _ (.string k) r4)
    simp only [List.setIfInBounds_toArray, List.set_cons_zero, List.set_cons_succ] at this
    exact this
  have y5 : Fr (fun i => i = w.heap.size) W4 ((W4.setCell ⟨w.heap.size, 0, none⟩ (.string k)).setCell ⟨w.heap.size, 1, none⟩ (.string v)) := ((Fr.refl (fun i => i = w.heap.size) W4).setCell (p := ⟨w.heap.size, 0, none⟩) (fun _ => rfl) _).setCell (p := ⟨w.heap.size, 1, none⟩) (fun _ => rfl) _
  have g5 := g4.frame y5 (by omega)
  have z5 : RdStep b w ((W4.setCell ⟨w.heap.size, 0, none⟩ (.string k)).setCell ⟨w.heap.size, 1, none⟩ (.string v)) := Fr.trans (Fr.trans (sx.mono (fun _ _ f => f.elim)) y4 (fun i _ e => e)) y5 (fun i hi e => by omega)
  exact bodyPost_ret (HRES.out _ _ _ r5 rfl rfl) rfl ⟨rfl, g5, z5⟩
theorem eql_rdPair (W : World) (sb : Nat) : (binOp .eql 103 (.func (.func 73) #[] #[.pointer (some ⟨sb, 0, none⟩)]) .nilFunc).run Try.prog W = .ok (.bool false) W := by kernel_rfl
set_option maxRecDepth 100000 in
set_option maxHeartbeats 2000000 in
theorem listPair_calls {w : World} {b : Nat} {s : ByteArray} {p c : Nat} (h : RdAt w b s p c) (hsz : s.size ≤ 1000000000000) (m : Nat) (bd : Int) (hm : (m : Int) = max bd 0) (hm1 : m ≤ 9223372036854775807) {pg q : Int} (hpg : pg = 1024 ∨ pg = 2048 ∨ pg = 4096 ∨ pg = 8192) (sb : Nat) (hne : sb ≠ b) (hK0 : w.cell? ⟨sb, 0, none⟩ = some (.int .i64 pg)) (hK1 : w.cell? ⟨sb, 1, none⟩ = some (.int .i64 q)) :
    Calls Try.prog 72 #[.pointer (some ⟨b, 0, none⟩), .int .i64 bd, .func (.func 73) #[] #[.pointer (some ⟨sb, 0, none⟩)]] w fun e w' => ∃ ao cap, e = .returned (.slice ao (rListG (rdPair pg s) s p c m).1.length cap) ∧
      w'.ownsRow 0 33 2 (.slice ao (rListG (rdPair pg s) s p c m).1.length cap) (rListG (rdPair pg s) s p c m).1.length (pcells (rListG (rdPair pg s) s p c m).1) ∧ (∀ k, ao.map (·.block) = some k → w.heap.size ≤ k) ∧ RdAt w' b s (rListG (rdPair pg s) s p c m).2.1 (rListG (rdPair pg s) s p c m).2.2 ∧ RdStep b w w' := by
  have hp := h.2.1
  have hbw := h.lt
  obtain ⟨i0, hi, hz0, hz1, hz2⟩ := info_parts Try.infPair
  have hef := fun W => eql_rdPair W sb
  have HC : Hid (∀ W, Calls Try.prog 85 #[.int .i64 bd] W fun e w' => e = .returned (.int .i64 m) ∧ W = w') := fun W => by
    have := counted_calls W bd; rw [← hm] at this; exact this
  clear hm
  have HF0 := rfree_calls h m (by omega)
  have hl := (rFree_lt s p c m)
  have hpl := rFree_place s p c m hp
  obtain ⟨n, p', c', hr⟩ : ∃ n p' c', rFree s p c m = (n, p', c') := ⟨_, _, _, rfl⟩
  have hcode := rFree_code s p c m
  have hx : rCount s p c m = if s.size - p' < n then (0, p, 12) else (n, p', c') := by unfold rCount; rw [hr]
  rw [hr] at HF0 hl hpl hcode
  simp only at hl hpl hcode
  have HF : Hid (Calls Try.prog 84 #[.pointer (some ⟨b, 0, none⟩), .int .u64 m] w fun e w' => e = .returned (.int .u64 n) ∧ RdAt w' b s p' c' ∧ RdStep b w w') := HF0
  clear HF0 hr
  by_cases hlt : s.size - p' < n
  · rw [if_pos hlt] at hx
    have hy : rListG (rdPair pg s) s p c m = ([], p, 12) := by unfold rListG; rw [hx]; simp [rMany]
    rw [hy]
    clear hx hy
    go_enter Try.func72, Try.ntmps72
    go_wp2_with (first | (go_at_call 83; refine (at_calls h).mono ?_; rintro e w' ⟨rfl, rfl⟩) | (go_at_call 85; refine (HC.out _).mono ?_; rintro e w' ⟨rfl, rfl⟩))
    refine HF.out.mono ?_
    rintro e w1 ⟨rfl, h1, st1⟩
    go_wp2_with fail
    refine (left_calls h1).mono ?_
    rintro e w2 ⟨rfl, st2⟩
    have hlt' : (s.size : Int) - (p' : Int) < (n : Int) := by omega
    go_wp2_with fail
    refine (fail_calls (h1.same st2) p 12 hp).mono ?_
    rintro e w3 ⟨rfl, h3, st3⟩
    go_wp2_with fail
    refine (reads_calls h3).mono ?_
    rintro e w4 ⟨rfl, rfl⟩
    go_wp2_with fail
    go_ret
    exact ⟨none, 0, rfl, World.ownsRow_nil _ _ _ _, by simp, h3, (st1.trans (Same.rd st2 b)).trans st3⟩
  · rw [if_neg hlt] at hx
    obtain ⟨R, hR⟩ : ∃ R, R = rMany (rdPair pg s) n p' c' [] := ⟨_, rfl⟩
    have hy : rListG (rdPair pg s) s p c m = if R.2.2 = 0 then R else ([], R.2) := by unfold rListG; rw [hx, ← hR]
    obtain ⟨Rf, hRf⟩ : ∃ Rf, Rf = if R.2.2 = 0 then R else ([], R.2) := ⟨_, rfl⟩
    rw [hy, ← hRf]
    have HRf : Hid (Rf = if R.2.2 = 0 then R else ([], R.2)) := hRf
    have HR : Hid (rMany (rdPair pg s) n p' c' [] = R) := hR.symm
    clear hx hy hR hRf
    go_enter Try.func72, Try.ntmps72
    go_wp2_with (first | (go_at_call 83; refine (at_calls h).mono ?_; rintro e w' ⟨rfl, rfl⟩) | (go_at_call 85; refine (HC.out _).mono ?_; rintro e w' ⟨rfl, rfl⟩))
    refine HF.out.mono ?_
    rintro e w1 ⟨rfl, h1, st1⟩
    go_wp2_with fail
    refine (left_calls h1).mono ?_
    rintro e w2 ⟨rfl, st2⟩
    have h2 := h1.same st2
    have st12 : RdStep b w w2 := st1.trans (Same.rd st2 b)
    have hlt' : (n : Int) ≤ (s.size : Int) - (p' : Int) := by omega
    clear h1 st1 st2
    go_wp2_with fail
    refine (reads_calls h2).mono ?_
    rintro e w4 ⟨rfl, rfl⟩
    by_cases hc0 : c' = 0
    · subst hc0
      go_wp2_with fail
      go_loopw [8, 9] (fun nv lv wr => ∃ (n1 p1 c1 : Nat) (acc : List (ByteArray × ByteArray)) (ao : Option Addr) (cap : Nat), nv = .int .u64 n1 ∧ lv = .slice ao acc.length cap ∧ acc.length + n1 ≤ s.size ∧ RdAt wr b s p1 c1 ∧ wr.ownsRow 0 33 2 (.slice ao acc.length cap) acc.length (pcells acc) ∧ (∀ k, ao.map (·.block) = some k → w.heap.size ≤ k) ∧ Hid (rMany (rdPair pg s) n1 p1 c1 acc = R) ∧ RdStep b w wr)
        (fun nv _ _ => (intOf nv).toNat)
      case atStart => exact ⟨n, p', 0, [], none, 0, rfl, rfl, by simp; omega, h2, World.ownsRow_nil _ _ _ _, by simp, HR, st12⟩
      case round =>
        clear h2 st12
        obtain ⟨n1, p1, c1, acc, ao, cap, rfl, rfl, hle, h2, hown, hfre, hd, hst⟩ := hrel
        have HW : Hid (Value.ownBlock (.slice ao acc.length cap) = ao.map (·.block)) := by show _ = _; cases ao <;> rfl
        by_cases hn1 : n1 = 0
        · subst hn1
          have hRe : Hid (R = (acc, p1, c1)) := by show _ = _; rw [← hd.out]; rfl
          clear hd
          go_wp2_with fail
          refine (reads_calls h2).mono ?_
          rintro e w4 ⟨rfl, rfl⟩
          by_cases hc1 : c1 = 0
          · subst hc1
            go_wp2_with fail
            go_ret
            have e : Rf = (acc, p1, 0) := by rw [HRf.out, hRe.out]; rfl
            rw [e]
            exact ⟨ao, cap, rfl, hown, hfre, h2, hst⟩
          · have hcb : (c1 == 0) = false := by simpa using hc1
            go_wp2_with fail
            go_ret
            have e : Rf = ([], p1, c1) := by rw [HRf.out, hRe.out]; simp [hc1]
            rw [e]
            exact ⟨none, 0, rfl, World.ownsRow_nil _ _ _ _, by simp, h2, hst⟩
        · obtain ⟨n2, rfl⟩ : ∃ n2, n1 = n2 + 1 := ⟨n1 - 1, by omega⟩
          have hpos : 0 < n2 + 1 := by omega
          clear hn1
          by_cases hc1 : c1 = 0
          · subst hc1
            have hd2 : Hid (rMany (rdPair pg s) n2 (rdPair pg s p1 0).2.1 (rdPair pg s p1 0).2.2 (acc ++ [(rdPair pg s p1 0).1]) = R) := by
              have := hd.out; rw [rMany, if_pos rfl] at this; exact this
            have hKr0 : wr.cell? ⟨sb, 0, none⟩ = some (.int .i64 pg) := (Fr.cell (S := fun k => k = b) hst (p := ⟨sb, 0, none⟩) (World.block_lt_of_cell? _ _ hK0) hne).trans hK0
            have hKr1 : wr.cell? ⟨sb, 1, none⟩ = some (.int .i64 q) := (Fr.cell (S := fun k => k = b) hst (p := ⟨sb, 1, none⟩) (World.block_lt_of_cell? _ _ hK1) hne).trans hK1
            have HS0 := fn_pair hpg h2 sb hne hKr0 hKr1
            obtain ⟨t, p3, c3, ht⟩ : ∃ t p3 c3, rdPair pg s p1 0 = (t, p3, c3) := ⟨_, _, _, rfl⟩
            rw [ht] at hd2 HS0
            have HS : Hid (Calls Try.prog 73 #[.pointer (some ⟨b, 0, none⟩), .pointer (some ⟨sb, 0, none⟩)] wr fun e w' => e = .returned (.agg #[.string t.1, .string t.2]) ∧ RdAt w' b s p3 c3 ∧ RdStep b wr w') := HS0
            clear HS0 ht hd
            go_wp2_with (go_at_call 88; refine (reads_calls h2).mono ?_; rintro e w' ⟨rfl, rfl⟩)
            refine HS.out.mono ?_
            rintro e w5 ⟨rfl, h5, st5⟩
            have hown5 : w5.ownsRow 0 33 2 (.slice ao acc.length cap) acc.length (pcells acc) := own_frame2 hown st5 (by
              intro k hk e; have := hfre k (by rw [← HW.out]; exact hk); omega)
            have hst5 := hst.trans st5
            clear hown h2 st5 hst HS
            go_wp2_with (at_builtin; go_must (refine wpList_append_lies _ (by rfl) _ _ _ (by rfl) 0 33 i0 (.agg #[.string ⟨#[]⟩, .string ⟨#[]⟩]) 2 32 Try.underlying22 hi hz0 hz1 hz2 rfl (by decide) _ _ _ (by rfl) (hown5.alloc _) ⟨w5.heap.size, 0, none⟩ 1 1 _ (by rfl) ?_ (World.news_of_block (heap_alloc_new w5 _)) ?_ (by decide) ?_ ?_ (Nat.zero_le _) (w5.heap.size + 1) (by simp) ?_))
            · exact ⟨rfl, rfl⟩
            · unfold maxLen; omega
            · omega
            · intro g2 cap2 w6 hown6 hgrow hat hlt6
              have hnb : some b ≠ Value.ownBlock (.slice ao acc.length cap) := by
                intro e; have := hfre b (by rw [← HW.out]; exact e.symm); omega
              have st6 : RdStep b w w6 := (Fr.alloc hst5 _).grown hgrow (fun k hk hlt => by have := hfre k (by rw [← HW.out]; exact hk); omega)
              have h6 : RdAt w6 b s p3 c3 := h5.frame (S := fun k => some k = Value.ownBlock (.slice ao acc.length cap)) (((Fr.refl _ w5).alloc _).grown hgrow (fun k hk _ => hk.symm)) hnb
              have hf6 : ∀ k, (some (⟨g2, 0, none⟩ : Addr)).map (·.block) = some k → w.heap.size ≤ k := by
                intro k hk
                have : g2 = k := by simpa using hk
                subst this
                rcases hat with h' | h'
                · exact hfre g2 (by rw [← HW.out]; exact h')
                · have := hst5.size; omega
              have hown7 : w6.ownsRow 0 33 2 (.slice (some ⟨g2, 0, none⟩) (acc ++ [t]).length cap2) (acc ++ [t]).length (pcells (acc ++ [t])) := by
                rw [pcells_append]; simpa [pcells] using hown6
              clear hown6 hgrow hat hown5 h5 hst5 hfre hnb
              go_wp2
              go_roundw
              case rel => exact ⟨n2, p3, c3, acc ++ [t], some ⟨g2, 0, none⟩, cap2, by go_num, by simp, by simp; omega, h6, hown7, hf6, hd2, st6⟩
              case measure => simp [intOf]
          · have hcb : (c1 == 0) = false := by simpa using hc1
            have hRe : Hid (R = (acc, p1, c1)) := by show _ = _; rw [← hd.out, rMany, if_neg hc1]
            clear hd
            go_wp2_with (go_at_call 88; refine (reads_calls h2).mono ?_; rintro e w' ⟨rfl, rfl⟩)
            go_ret
            have e : Rf = ([], p1, c1) := by rw [HRf.out, hRe.out]; simp [hc1]
            rw [e]
            exact ⟨none, 0, rfl, World.ownsRow_nil _ _ _ _, by simp, h2, hst⟩
    · have hn0 : n = 0 := hcode hc0
      have hcb : (c' == 0) = false := by simpa using hc0
      have hRe : Hid (Rf = ([], p', c')) := by
        show _ = _
        have : R = ([], p', c') := by rw [← HR.out, hn0]; rfl
        rw [HRf.out, this]; simp [hc0]
      go_wp2_with fail
      go_ret
      rw [hRe.out]
      exact ⟨none, 0, rfl, World.ownsRow_nil _ _ _ _, by simp, h2, st12⟩
end Go.Proofs.Ytjlbkagkmcelgaa
