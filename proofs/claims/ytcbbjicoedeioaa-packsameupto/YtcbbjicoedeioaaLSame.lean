/- PackSame's walk: what was read without a fault is laid by the same calls as the very bytes that were read. -/
import Derived.Test.YtcbbjicoedeioaaWF
import Derived.Test.YtcbbjicoedeioaaZ2
namespace Go.Proofs.Ytcbbjicoedeioaa
open Go.RowKit

theorem PStep.below {r b B : Nat} {g g' : Option Nat} {w w' : World} (h : PStep r b g g' w w') (hB : B ≤ w.heap.size) (hr : B ≤ r) (ha : Above B b g) : Below B w w' :=
  Fr.below h.1 hB (by rintro k (e | e | e); omega; rw [e]; exact ha.1; exact ha.2 k e.symm)
theorem PStep.above {r b B : Nat} {g g' : Option Nat} {w w' : World} (h : PStep r b g g' w w') (hB : B ≤ w.heap.size) (ha : Above B b g) : Above B b g' :=
  ⟨ha.1, fun k hk => by rcases h.2 k hk with e | e; exact ha.2 k e; omega⟩
theorem take_extract (S : ByteArray) (p : Nat) : (⟨(S.data.toList.take p).toArray⟩ : ByteArray) = S.extract 0 p := by
  rw [Lib.extract_eq]; simp

set_option maxRecDepth 100000 in
set_option maxHeartbeats 4000000 in
theorem same_walk (w : World) (S : ByteArray) (hS : S.size ≤ 1048576) (v : Value) (ts : List StepP) (hin : StepsIn w.heap.size w v ts) (ok : ∀ t ∈ ts, StepOK t) :
    Calls Try.prog 6 #[.string S, v] w fun e w' => e = .returned (.bool true) ∧ Below w.heap.size w w' := by
  obtain ⟨ad, cp, rfl, hl, hel⟩ := hin
  have HOK : Hid (∀ t ∈ ts, StepOK t) := ok
  clear ok
  go_enter Try.func6, Try.ntmps6
  go_wp2_with fail
  refine (open_calls _ S).mono ?_
  rintro e w1 ⟨rfl, hw1⟩
  have hrd : RdAt w1 w.heap.size S 0 0 := ⟨by rw [hw1]; exact heap_alloc_new w _, by omega, by omega⟩
  have s1 : Same w w1 := by rw [hw1]; exact (Fr.refl _ w).alloc _
  have z1 : w1.heap.size = w.heap.size + 1 := by rw [hw1]; simp
  clear hw1
  go_wp2_with fail
  refine (new_calls _).mono ?_
  rintro e w2 ⟨rfl, hw2⟩
  have hwr : WrAt w2 w1.heap.size none [] := by rw [hw2]; exact wr_new w1
  have s2 : Same w1 w2 := by rw [hw2]; exact (Fr.refl _ w1).alloc _
  have hrd2 := hrd.same s2
  have z2 : w.heap.size < w2.heap.size := by have := s2.size; omega
  have s02 : Same w w2 := Fr.trans s1 s2 (fun _ _ f => f)
  clear hw2 hrd s1 s2
  rw [z1] at hwr ⊢
  clear z1
  go_wp2_with fail
  refine (lives_calls _).mono ?_
  rintro e W2 ⟨rfl, s3⟩
  have hrd3 := hrd2.same s3
  have hwr3 := hwr.same s3
  have s03 : Same w W2 := Fr.trans s02 s3 (fun _ _ f => f)
  have z3 : w.heap.size < W2.heap.size := by have := s3.size; omega
  clear hrd2 hwr s02 s3 z2
  go_wp2_with fail
  go_loopw [7] (fun iv wr => ∃ (k p : Nat) (g : Option Nat), iv = .int .i64 k ∧ k ≤ ts.length ∧ RdAt wr w.heap.size S p 0 ∧ WrAt wr (w.heap.size + 1) g (S.data.toList.take p) ∧ g ≠ some w.heap.size ∧ Above w.heap.size (w.heap.size + 1) g ∧ Below w.heap.size w wr ∧ w.heap.size < wr.heap.size)
    (fun iv _ => ts.length - (intOf iv).toNat)
  case atStart => exact ⟨0, 0, none, rfl, by omega, hrd3, hwr3, by simp, ⟨by omega, by simp⟩, Fr.below s03 (Nat.le_refl _) (fun _ f => f.elim), z3⟩
  case round =>
    obtain ⟨k, p, g, rfl, hk, hrk, hwk, hgr, hab, hbel, hz⟩ := hrel
    clear hrd3 hwr3 s03 z3
    by_cases hgo : k < ts.length
    · rcases hel with rfl | ⟨ab, ao, rfl, hlt, hel⟩
      · simp at hgo
      obtain ⟨pa, pl, pc, na, nl, nc, c0, c1, c2, c3, c4, c5, c6, c7, c8, h9, h10⟩ := (hel k ts[k] (List.getElem?_eq_getElem hgo)).below hlt hbel
      have hok := HOK.out ts[k] (List.getElem_mem hgo)
      have i0 : (0 : Int) ≤ (k : Int) := by omega
      have i1 : (k : Int) < (ts.length : Int) := by omega
      have hin : StepIn w.heap.size wr (stepV ts[k].kd ts[k].n ts[k].i ts[k].s pa pl pc na nl nc ts[k].wd ts[k].m ts[k].bd) ts[k] := ⟨pa, pl, pc, na, nl, nc, rfl, h9, h10⟩
      have HX := again_any ts[k] hok hin hrk hwk (by omega) hgr hS
      generalize hT : ts[k] = T at *
      go_wp2_with fail
      refine (at_calls hrk).mono ?_
      rintro e w3 ⟨rfl, rfl⟩
      go_wp2_with fail
      refine HX.mono ?_
      rintro e W4 ⟨rfl, p', c, g', hr4, hpp, hw4, st4⟩
      have hp4 := hr4.2.1
      have hb4 := hbel.trans (st4.below (by omega) (Nat.le_refl _) hab)
      have ha4 := st4.above (by omega) hab
      have hz4 : w.heap.size < W4.heap.size := by have := st4.1.size; omega
      have hg4 : g' ≠ some w.heap.size := by
        intro e
        rcases st4.2 _ e with h | h
        · exact hgr h
        · omega
      clear c0 c1 c2 c3 c4 c5 c6 c7 c8 h9 h10 st4 hin
      by_cases hc : c = 0
      · subst hc
        have hw4' := hw4 rfl
        have hstr := wstring_calls hw4'
        rw [take_extract] at hstr
        have hleft := left_calls hr4
        have j0 : (0 : Int) ≤ (p' : Int) := by omega
        have j1 : (p' : Int) ≤ (S.size : Int) := by omega
        clear hw4
        go_wp2_with fail
        refine (fault_ok hr4).mono ?_
        rintro e W5 ⟨rfl, rfl⟩
        go_wp2_with fail
        refine (at_calls hr4).mono ?_
        rintro e W5 ⟨rfl, rfl⟩
        go_wp2_with fail
        refine (at_calls hr4).mono ?_
        rintro e W5 ⟨rfl, rfl⟩
        go_wp2_with fail
        refine hstr.mono ?_
        rintro e W5 ⟨rfl, rfl⟩
        go_wp2_with fail
        refine (at_calls hr4).mono ?_
        rintro e W5 ⟨rfl, rfl⟩
        go_wp2_with fail
        refine hleft.mono ?_
        rintro e W6 ⟨rfl, s6⟩
        have hr6 := hr4.same s6
        have hw6 := hw4'.same s6
        have hb6 := hb4.trans (Fr.below s6 (by omega) (fun _ f => f.elim))
        have hz6 : w.heap.size < W6.heap.size := by have := s6.size; omega
        go_wp2_with fail
        refine (at_calls hr6).mono ?_
        rintro e W7 ⟨rfl, rfl⟩
        go_wp2_with fail
        go_roundw
        case rel => exact ⟨k + 1, p', g', by go_num, by omega, hr6, hw6, hg4, ha4, hb6, hz6⟩
        case measure => simp [intOf]; omega
      · clear hw4
        go_wp2_with fail
        refine (fault_bad hr4 (by omega)).mono ?_
        rintro e W5 ⟨rfl, _, s5⟩
        have hr5 := hr4.same s5
        have hb5 := hb4.trans (Fr.below s5 (by omega) (fun _ f => f.elim))
        go_wp2_with fail
        refine (at_calls hr5).mono ?_
        rintro e W6 ⟨rfl, rfl⟩
        go_wp2_with fail
        refine (at_calls hr5).mono ?_
        rintro e W6 ⟨rfl, rfl⟩
        go_wp2_with fail
        go_ret
        exact ⟨rfl, hb5⟩
    · obtain rfl : k = ts.length := by omega
      go_wp2_with fail
      go_ret
      exact ⟨rfl, hbel⟩
end Go.Proofs.Ytcbbjicoedeioaa
