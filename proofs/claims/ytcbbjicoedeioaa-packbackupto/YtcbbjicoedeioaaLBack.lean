/- PackBack's walk: what was laid is read back by the same calls, in the same order, and nothing is left over. -/
import Derived.Test.YtcbbjicoedeioaaWF
import Derived.Test.YtcbbjicoedeioaaWX
namespace Go.Proofs.Ytcbbjicoedeioaa
open Go.RowKit

theorem Stands.at {ts : List StepP} {S : ByteArray} (hS : S = ⟨(encAll ts).toArray⟩) (k : Nat) (hk : k < ts.length) :
    Stands S (encAll (ts.take k)).length (encS ts[k]) (encAll (ts.drop (k + 1))) := by
  have e : S.data.toList = encAll (ts.take k) ++ (encS ts[k] ++ encAll (ts.drop (k + 1))) := by rw [hS, ← encAll_split ts k hk]
  refine ⟨?_, ?_⟩
  · rw [e, List.drop_left]
  · have := congrArg List.length e
    rw [bytes_length, List.length_append] at this
    omega

set_option maxRecDepth 100000 in
set_option maxHeartbeats 4000000 in
theorem back_walk (w : World) (v : Value) (ts : List StepP) (hin : StepsIn w.heap.size w v ts) (ok : ∀ t ∈ ts, StepOK t) (hw : wtAll ts ≤ 1048576) :
    Calls Try.prog 5 #[v] w fun e w' => e = .returned (.bool true) ∧ Below w.heap.size w w' := by
  have hlen := encAll_len ts
  obtain ⟨ad, cp, rfl, hl, hel⟩ := hin
  have HOK : Hid (∀ t ∈ ts, StepOK t) := ok
  clear ok
  go_enter Try.func5, Try.ntmps5
  go_wp2_with fail
  refine (new_calls _).mono ?_
  rintro e w1 ⟨rfl, rfl⟩
  have hwr := wr_new w
  have sa : Same w (w.alloc (.cells #[.bool true, .slice none 0 0] 69)) := (Fr.refl _ w).alloc _
  have hs1 : w.heap.size < (w.alloc (.cells #[.bool true, .slice none 0 0] 69)).heap.size := by simp
  generalize w.alloc (.cells #[.bool true, .slice none 0 0] 69) = W1 at *
  go_wp2_with fail
  refine (lives_calls _).mono ?_
  rintro e W2 ⟨rfl, s2⟩
  have hwr2 := hwr.same s2
  have hw2 : Same w W2 := Fr.trans sa s2 (fun _ _ f => f)
  have hs2 : w.heap.size < W2.heap.size := by have := s2.size; omega
  clear hwr sa hs1 s2
  go_wp2_with fail
  go_loopw [4] (fun iv wr => ∃ (k : Nat) (g : Option Nat), iv = .int .i64 k ∧ k ≤ ts.length ∧ WrAt wr w.heap.size g (encAll (ts.take k)) ∧ Above w.heap.size w.heap.size g ∧ Below w.heap.size w wr ∧ w.heap.size < wr.heap.size)
    (fun iv _ => ts.length - (intOf iv).toNat)
  case atStart => exact ⟨0, none, rfl, by omega, hwr2, ⟨Nat.le_refl _, fun _ h => by cases h⟩, Fr.below hw2 (Nat.le_refl _) (fun _ f => f.elim), hs2⟩
  case round =>
    obtain ⟨k, g, rfl, hk, hwk, hab, hbel, hsz⟩ := hrel
    by_cases hgo : k < ts.length
    · rcases hel with rfl | ⟨ab, ao, rfl, hlt, hel⟩
      · simp at hgo
      obtain ⟨pa, pl, pc, na, nl, nc, c0, c1, c2, c3, c4, c5, c6, c7, c8, h9, h10⟩ := (hel k ts[k] (List.getElem?_eq_getElem hgo)).below hlt hbel
      have hok := HOK.out ts[k] (List.getElem_mem hgo)
      have htl := encAll_take_le ts k
      have hin : StepIn w.heap.size wr (stepV ts[k].kd ts[k].n ts[k].i ts[k].s pa pl pc na nl nc ts[k].wd ts[k].m ts[k].bd) ts[k] := ⟨pa, pl, pc, na, nl, nc, rfl, h9, h10⟩
      have i0 : (0 : Int) ≤ (k : Int) := by omega
      have i1 : (k : Int) < (ts.length : Int) := by omega
      have HX := fun (W : World) (h1 : StepIn w.heap.size W (stepV ts[k].kd ts[k].n ts[k].i ts[k].s pa pl pc na nl nc ts[k].wd ts[k].m ts[k].bd) ts[k]) (h2 : WrAt W w.heap.size g (encAll (ts.take k))) (h3 : w.heap.size ≤ W.heap.size) => lay_any ts[k] hok h1 h2 hab h3 (by omega)
      generalize hT : ts[k] = T at *
      go_wp2_with fail
      refine (HX _ hin hwk (by omega)).mono ?_
      rintro e W3 ⟨rfl, g', hwk', st⟩
      go_wp2_with fail
      go_roundw
      case rel => exact ⟨k + 1, g', by go_num, by omega, by rw [encAll_take_succ ts k hgo, hT]; exact hwk', hab.step st (by omega), hbel.trans (hab.below st (by omega)), by have := st.1.size; omega⟩
      case measure => simp [intOf]; omega
    · obtain rfl : k = ts.length := by omega
      rw [List.take_length] at hwk
      obtain ⟨WR, hWR⟩ : ∃ WR, WR = wr := ⟨_, rfl⟩
      subst hWR
      obtain ⟨S, hS⟩ : ∃ S : ByteArray, S = ⟨(encAll ts).toArray⟩ := ⟨_, rfl⟩
      have hSs : S.size = (encAll ts).length := by rw [hS]; simp [ByteArray.size]
      have hstr := wstring_calls hwk
      rw [← hS] at hstr
      have HS : Hid (S = ⟨(encAll ts).toArray⟩) := hS
      clear hS
      go_wp2_with fail
      refine hstr.mono ?_
      rintro e W4 ⟨rfl, rfl⟩
      go_wp2_with fail
      refine (open_calls _ S).mono ?_
      rintro e W5 ⟨rfl, hW5⟩
      have hrd : RdAt W5 WR.heap.size S 0 0 := ⟨by rw [hW5]; exact heap_alloc_new WR _, by omega, by omega⟩
      have s5 : Same WR W5 := by rw [hW5]; exact (Fr.refl _ WR).alloc _
      have hwk5 := hwk.same s5
      have hbel5 : Below w.heap.size w W5 := hbel.trans (Fr.below s5 (by omega) (fun _ f => f.elim))
      have hwlt := hwk.lt
      clear hW5 hwr2 hw2 hs2
      go_wp2_with fail
      go_loopw [6] (fun iv wr => ∃ (k : Nat), iv = .int .i64 k ∧ k ≤ ts.length ∧ RdAt wr WR.heap.size S (encAll (ts.take k)).length 0 ∧ RdStep WR.heap.size W5 wr)
        (fun iv _ => ts.length - (intOf iv).toNat)
      case atStart => exact ⟨0, rfl, by omega, hrd, Fr.refl _ _⟩
      case round =>
        obtain ⟨k, rfl, hk, hrk, hst⟩ := hrel
        have hbelk : Below w.heap.size w wr := hbel5.trans (Fr.below hst (by have := s5.size; omega) (fun k e => by omega))
        by_cases hgo : k < ts.length
        · rcases hel with rfl | ⟨ab, ao, rfl, hlt, hel⟩
          · simp at hgo
          obtain ⟨pa, pl, pc, na, nl, nc, c0, c1, c2, c3, c4, c5, c6, c7, c8, h9, h10⟩ := (hel k ts[k] (List.getElem?_eq_getElem hgo)).below hlt hbelk
          have hok := HOK.out ts[k] (List.getElem_mem hgo)
          have hin : StepIn w.heap.size wr (stepV ts[k].kd ts[k].n ts[k].i ts[k].s pa pl pc na nl nc ts[k].wd ts[k].m ts[k].bd) ts[k] := ⟨pa, pl, pc, na, nl, nc, rfl, h9, h10⟩
          have i0 : (0 : Int) ≤ (k : Int) := by omega
          have i1 : (k : Int) < (ts.length : Int) := by omega
          have HX := fun (W : World) (h1 : StepIn w.heap.size W (stepV ts[k].kd ts[k].n ts[k].i ts[k].s pa pl pc na nl nc ts[k].wd ts[k].m ts[k].bd) ts[k]) (h2 : RdAt W WR.heap.size S (encAll (ts.take k)).length 0) => back_any ts[k] hok h1 h2 (by omega) (by omega) _ (Stands.at HS.out k hgo)
          generalize hT : ts[k] = T at *
          go_wp2_with fail
          refine (HX _ hin hrk).mono ?_
          rintro e W6 ⟨rfl, hrk', st⟩
          go_wp2_with fail
          go_roundw
          case rel => exact ⟨k + 1, by go_num, by omega, by rw [encAll_take_succ ts k hgo, hT, List.length_append]; exact hrk', RdStep.trans hst st⟩
          case measure => simp [intOf]; omega
        · obtain rfl : k = ts.length := by omega
          rw [List.take_length, ← hSs] at hrk
          have hwk6 := hwk5.frame hst (by omega) (fun i hi e => by have := hwlt.2 i hi; omega)
          have hleft := left_calls hrk
          rw [Int.sub_self] at hleft
          go_wp2_with fail
          refine (fault_ok hrk).mono ?_
          rintro e W7 ⟨rfl, rfl⟩
          go_wp2_with fail
          refine hleft.mono ?_
          rintro e W8 ⟨rfl, s8⟩
          have hrk8 := hrk.same s8
          have hwk8 := hwk6.same s8
          have hlen8 := wlen_calls hwk8
          rw [← hSs] at hlen8
          have hbel8 : Below w.heap.size w W8 := hbelk.trans (Fr.below s8 (by have := hst.size; have := s5.size; omega) (fun _ f => f.elim))
          go_wp2_with fail
          refine (at_calls hrk8).mono ?_
          rintro e W9 ⟨rfl, rfl⟩
          go_wp2_with fail
          refine hlen8.mono ?_
          rintro e W9 ⟨rfl, rfl⟩
          go_wp2_with fail
          refine (end_ok hrk8 rfl).mono ?_
          rintro e W10 ⟨rfl, s10⟩
          have hbel10 : Below w.heap.size w W10 := hbel8.trans (Fr.below s10 (by have := s8.size; have := hst.size; have := s5.size; omega) (fun _ f => f.elim))
          go_wp2_with fail
          go_ret
          exact ⟨rfl, hbel10⟩
end Go.Proofs.Ytcbbjicoedeioaa
