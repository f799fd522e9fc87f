/- maps.Keys over numbers of 32 bits, as something that is ranged over. -/
import Derived.RangeFuncNested
import Derived.RangeFuncBound
import Derived.RangeFuncCalls
import Derived.RangeFuncLeaves
import Derived.RangeFuncSeq
import Derived.Sort.MapsRangeIn
import Derived.WalkKit
import Derived.OwnWalkIn
import Derived.TacticsInMore
import Derived.LoopNIn
import Derived.LoopIn
import Derived.Test.YtajbifblbmlffaaEQ
namespace Go.Proofs.Ytajbifblbmlffaa
open Go.RowKit Go.Maps Go.Shelf
attribute [local go_sem] Oper.semAt_some

def encU (x : Nat) : Array Value := #[.int .u32 (x : Int)]
theorem ukey_inv {key : Value} {kl : Lit} (h : keyOf Try.prog 28 key = some kl) : ∃ x : Nat, key = .int .u32 (x : Int) ∧ kl = .int .u32 (x : Int) := by
  cases key <;> simp [keyOf, Try.underlying28, mapKey] at h
  rename_i q a
  obtain ⟨⟨rfl, hw⟩, rfl⟩ := h
  have h0 : 0 ≤ a := by
    simp [Lit.wf, IntKind.min] at hw
    exact (of_decide_eq_true hw.1 : (0 : Int) ≤ a)
  exact ⟨a.toNat, by rw [Int.toNat_of_nonneg h0], by rw [Int.toNat_of_nonneg h0]⟩
/-- What has come of a set's numbers. -/
def CollU (D : SetD) (left : Lit → Bool) (ss : List Nat) : Prop := ss.Nodup ∧ ∀ x : Nat, x ∈ ss ↔ (hasN D x = true ∧ left (.int .u32 (x : Int)) = false)
theorem CollU.start (D : SetD) : CollU D (Maps.has D) [] := ⟨List.nodup_nil, fun x => by
  constructor
  · intro h; cases h
  · rintro ⟨h1, h2⟩
    unfold hasN at h1
    rw [h1] at h2
    cases h2⟩
theorem sameKey_u32 (x y : Nat) : (Lit.int .u32 (x : Int)).sameKey (.int .u32 (y : Int)) = decide (x = y) := by
  simp [Lit.sameKey]
  omega
theorem CollU.step {D : SetD} {left : Lit → Bool} {ss : List Nat} {x : Nat} (h : CollU D left ss) (hl : left (.int .u32 (x : Int)) = true) (hh : hasN D x = true) : CollU D (fun z => left z && !z.sameKey (.int .u32 (x : Int))) (ss ++ [x]) := by
  have hx : x ∉ ss := fun e => by have := (h.2 x).1 e; rw [hl] at this; exact absurd this.2 (by simp)
  refine ⟨List.nodup_append.2 ⟨h.1, List.nodup_cons.2 ⟨by simp, List.nodup_nil⟩, fun a ha b hb e => by
    simp at hb
    rw [hb] at e
    rw [e] at ha
    exact hx ha⟩, fun y => ?_⟩
  rw [List.mem_append, h.2 y]
  simp only [List.mem_singleton, sameKey_u32]
  by_cases e : y = x
  · subst e
    simp [hh]
  · simp [e]
set_option maxRecDepth 100000 in
set_option maxHeartbeats 1000000 in
theorem keysU_stops {w : World} {Bm b nn : Nat} {D : SetD} (hm : w.cell? ⟨Bm, 0, none⟩ = some (.map (some b))) (hs : SetAt w b nn D) :
    SeqStopsK Fence.wide 2 Try.prog 61 #[.pointer (some ⟨Bm, 0, none⟩)] encU KeepsWalks (fun xs => xs.Nodup ∧ ∀ x : Nat, x ∈ xs ↔ hasN D x = true) (fun _ => True) (Maps.size D) w := by
  intro l J Jx W hW hJ hJx hY h0
  have sW : Same w W := ⟨hW.os, hW.tape, hW.output, hW.size, fun k hk _ => hW.block k hk⟩
  have hown : SetAt W b nn D := hs.fr sW (fun f => f)
  have hm' := sW.keep hm
  clear hm hs
  simp only [List.append_toArray, List.cons_append, List.nil_append]
  refine callsIn_of_wp Try.func61 rfl trivial ?_ rfl
  simp only [Try.ntmps61, List.size_toArray, List.length_cons, List.length_nil, Nat.reduceAdd, Nat.reduceSub, Array.replicate_succ, Array.replicate_zero, List.push_toArray, List.append_toArray, List.nil_append, List.cons_append]
  gi_wp2_with (first
    | (gi_at_range; refine wpListIn_range_own _ rfl _ 46 rfl 28 108 ukey Try.underlying46 _ b nn _ rfl hown ?_; intro w0 hrg0 hg0 hs0)
    | gi_in)
  go_frame
  gi_loopw [3] (fun _ wr => ∃ (left : Lit → Bool) (cnt : Nat) (ss : List Nat), wr.ranges Try.prog 28 (unitElem (H := Unit)) b W.heap.size nn D left cnt ∧ ss.length + cnt ≤ Maps.size D ∧ CollU D left ss ∧ (∀ kl, left kl = true → Maps.has D kl = true) ∧ J ss wr)
    (fun _ wr => wr.rangeLeft b W.heap.size)
  case atStart => exact ⟨_, _, [], hrg0, by simp, CollU.start D, fun _ h => h, hJ [] W w0 none h0 hg0 (fun r e => by cases e)⟩
  case round =>
    obtain ⟨left, cnt, ss, hrg, hcs, hC, hLH, hJs⟩ := hrel
    gi_wp2_with (first
      | (gi_at_next; refine wpListIn_next_ranges _ rfl _ rfl 28 ukey _ (fun x : Nat => Value.int .u32 (x : Int)) id (fun key kl hk => by obtain ⟨x, hx, _⟩ := ukey_inv hk; exact ⟨x, hx⟩) (fun v _ _ => ⟨v, rfl⟩) b W.heap.size nn _ _ _ rfl hrg ?_ ?_)
      | gi_in)
    · intro hc0 hl0
      gi_wp2
      go_end0
      exact ⟨⟨_, rfl⟩, .inl ⟨ss, ⟨hC.1, fun x => by rw [hC.2 x, hl0]; simp⟩, hJs⟩⟩
    · intro x c kl yd yp w2 cnt2 hkey hlk hv hat hrg2 hlt hg2 hs2 hen
      obtain ⟨x', ex, rfl⟩ := ukey_inv hkey
      obtain rfl : x = x' := by injection ex with _ e; omega
      have hh : hasN D x = true := hLH _ hlk
      have hJ2 : J ss w2 := hJ ss wr w2 (some W.heap.size) hJs hg2 (fun r e => by cases e; exact ⟨Nat.le_refl _, hrg.iter_walk⟩)
      obtain ⟨fn, tmps, assign, body, hy, hR⟩ := hY ss x w2 hJ2 (by omega)
      have hC2 := hC.step hlk hh
      have hLH2 : ∀ kl, (left kl && !kl.sameKey (.int .u32 (x : Int))) = true → Maps.has D kl = true := fun kl h => hLH kl (by simp at h; exact h.1)
      dsimp only [encU] at hy
      clear hs2 hat hh
      gi_wp2
      refine hR.mono ?_
      rintro e W3 (⟨rfl, hJ3, hk3⟩ | ⟨rfl, hJx3⟩)
      · gi_wp2
        have hrg3 := hrg2.of_walks hk3
        go_roundw
        case rel => exact ⟨_, cnt2, ss ++ [x], hrg3, by simp; omega, hC2, hLH2, hJ3⟩
        case measure => rw [hrg3.left_eq, hrg.left_eq]; exact hlt
      · gi_wp2
        refine bodyPost_ret (results_none rfl _ _ _) rfl ?_
        exact ⟨⟨_, rfl⟩, .inr ⟨ss ++ [x], trivial, hJx3⟩⟩
end Go.Proofs.Ytajbifblbmlffaa
