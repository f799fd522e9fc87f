/- Cuts$1 of a leaf. -/
import Derived.RangeFuncNested
import Derived.RangeFuncBound
import Derived.RangeFuncCalls
import Derived.RangeFuncLeaves
import Derived.Shelf.Abstract
import Derived.Shelf.RegionOpen
import Derived.WalkKit
import Derived.OwnWalkIn
import Derived.TacticsInMore
import Derived.LoopNIn
import Derived.LoopIn
import Derived.Test.YtmgkdnejjemfeaaKDJ
namespace Go.Proofs.Ytmgkdnejjemfeaa
open Go.RowKit Go.Shelf
attribute [local go_sem] Oper.semAt_some

/-- All cells but those of two blocks are as they were. -/
def KpB (B1 B2 : Nat) (W W' : World) : Prop := ∀ (a : Addr) v, a.block ≠ B1 → a.block ≠ B2 → W.cell? a = some v → W'.cell? a = some v
def cutV (x : Nat × Nat × Nat) : Array Value := #[.int .i64 (x.1 : Int), .agg #[.int .i64 (x.2.1 : Int), .int .i64 (x.2.2 : Int)]]
def cutsN (ps : List (ByteArray × ByteArray)) (k : Nat) : List (Nat × Nat × Nat) := (List.range k).map fun j => (j + 1, sideN ps 0 (j + 1), sideN ps (j + 1) ps.length)
theorem cuts_len (ps : List (ByteArray × ByteArray)) (k : Nat) : (cutsN ps k).length = k := by simp [cutsN]
theorem cuts_succ (ps : List (ByteArray × ByteArray)) (k : Nat) : cutsN ps (k + 1) = cutsN ps k ++ [(k + 1, sideN ps 0 (k + 1), sideN ps (k + 1) ps.length)] := by
  unfold cutsN; rw [List.range_succ, List.map_append]; rfl
theorem cuts_prefix (ps : List (ByteArray × ByteArray)) {i k : Nat} (h : i ≤ k) : cutsN ps i <+: cutsN ps k := by
  obtain ⟨d, rfl⟩ : ∃ d, k = i + d := ⟨k - i, by omega⟩
  clear h
  induction d with
  | zero => exact List.prefix_refl _
  | succ d ih => rw [← Nat.add_assoc, cuts_succ]; exact ih.trans (List.prefix_append _ _)
set_option maxRecDepth 100000 in
set_option maxHeartbeats 1000000 in
theorem cut_in (n : Nat) (hn : 1 ≤ n) (l fb nb B1 B2 : Nat) {r : Nr} {N : Nd} {p q : Int} (J Jx : List (Nat × Nat × Nat) → World → Prop) (hJ : ∀ pre W W', J pre W → Same W W' → J pre W')
    (hY : ∀ pre x W, J pre W → pre.length < N.ps.length - 1 → YieldAt Fence.wide (n - 1) Try.prog l (cutV x) W fun e W' => (e = .returned (.bool true) ∧ J (pre ++ [x]) W' ∧ KpB B1 B2 W W') ∨ (e = .returned (.bool false) ∧ Jx (pre ++ [x]) W'))
    (W : World) (hf : W.heap[fb]? = some (.cells #[.int .i64 p, .int .i64 q] 23 (0, 0))) (hb : W.heap[nb]? = some (.cells #[.slice r.pa N.ps.length r.cp, .slice r.sa N.ss.length r.cs, .slice r.ka N.ks.length r.ck] 28 (0, 0)))
    (hN : NdAt W r N) (hc : chkN p q N = 0) (hk : N.ks.length = 0) (hn1 : N.ps.length ≤ 1048576) (hok : ∀ x ∈ N.ps, x.1.size ≤ 1048576 ∧ x.2.size ≤ 1048576) (hB1 : B1 < W.heap.size) (hB2 : B2 < W.heap.size) (h0 : J [] W) :
    CallsIn Fence.wide n Try.prog 21 #[.func (.yield l) #[] #[], .pointer (some ⟨fb, 0, none⟩), .pointer (some ⟨nb, 0, none⟩)] W fun e W' => (∃ v, e = .returned v) ∧ ((∃ ys, ys = cutsN N.ps (N.ps.length - 1) ∧ J ys W') ∨ (∃ pre, pre <+: cutsN N.ps (N.ps.length - 1) ∧ Jx pre W')) := by
  have f0 : W.cell? ⟨fb, 0, none⟩ = some (.int .i64 p) := by rw [cell_of_row _ _ _ _ _ _ hf]; rfl
  have f1 : W.cell? ⟨fb, 1, none⟩ = some (.int .i64 q) := by rw [cell_of_row _ _ _ _ _ _ hf]; rfl
  have n0 : W.cell? ⟨nb, 0, none⟩ = some (.slice r.pa N.ps.length r.cp) := by rw [cell_of_row _ _ _ _ _ _ hb]; rfl
  have n1 : W.cell? ⟨nb, 1, none⟩ = some (.slice r.sa N.ss.length r.cs) := by rw [cell_of_row _ _ _ _ _ _ hb]; rfl
  have n2 : W.cell? ⟨nb, 2, none⟩ = some (.slice r.ka 0 r.ck) := by rw [cell_of_row _ _ _ _ _ _ hb, ← hk]; rfl
  have HC : Hid (∀ V, Same W V → Calls Try.prog 22 #[frameV p q, nodeV r.pa N.ps.length r.cp r.sa N.ss.length r.cs r.ka 0 r.ck] V fun e w' => e = .returned (.int .i64 0) ∧ Same V w') := fun V s => by
    have := check_calls p q V (hN.same s)
    rw [hc] at this; unfold ndV at this; rw [hk] at this; exact this
  have HS : Hid (∀ V, Same W V → Calls Try.prog 23 #[frameV p q, nodeV r.pa N.ps.length r.cp r.sa N.ss.length r.cs r.ka 0 r.ck] V fun e w' => ∃ cb, e = .returned (.func (.func 50) #[] #[.pointer (some ⟨cb, 0, none⟩)]) ∧ V.heap.size ≤ cb ∧ Same V w' ∧ (∃ g c, w'.cell? ⟨cb, 0, none⟩ = some (.slice (some ⟨g, 0, none⟩) (N.ps.length + 1) c) ∧ IAt w' g 0 (pileN N.ps N.ps.length) ∧ V.heap.size ≤ g)) := fun V s => by
    have := scale_leaf (p := p) (q := q) V (hN.same s).hp hk hn1 hok
    unfold ndV at this; rw [hk] at this; exact this
  have HK : Hid (∀ x ∈ N.ps, x.1.size ≤ 1048576 ∧ x.2.size ≤ 1048576) := hok
  clear hf hb hN hc hok
  refine callsIn_of_wp Try.func21 rfl trivial ?_ rfl
  simp only [Try.ntmps21, List.size_toArray, List.length_cons, List.length_nil, Nat.reduceAdd, Nat.reduceSub, Array.replicate_succ, Array.replicate_zero, List.push_toArray, List.append_toArray, List.nil_append, List.cons_append]
  gi_wp2
  refine ⟨trivial, (callsIn_wide.2 (HC.out _ (Fr.refl _ W))).mono ?_⟩
  rintro e W1 ⟨rfl, s1⟩
  have f0 := s1.keep f0
  have f1 := s1.keep f1
  have n0 := s1.keep n0
  have n1 := s1.keep n1
  have n2 := s1.keep n2
  gi_wp2
  refine ⟨trivial, (callsIn_wide.2 (HS.out _ s1)).mono ?_⟩
  rintro e W2 ⟨cb, rfl, hcb, s2, g, c, hpc, hpi, hg2⟩
  have h2 : J [] W2 := hJ _ _ _ h0 (Same.trans s1 s2)
  have hz := (Same.trans s1 s2).size
  clear f0 f1 n0 n1 n2 HC HS
  have hw1 := s1.size
  have HSD : Hid (∀ (V : World) (f t : Nat), V.cell? ⟨cb, 0, none⟩ = some (.slice (some ⟨g, 0, none⟩) (N.ps.length + 1) c) → IAt V g 0 (pileN N.ps N.ps.length) → f ≤ t → t ≤ N.ps.length → Calls Try.prog 50 #[.int .i64 (f : Int), .int .i64 (t : Int), .pointer (some ⟨cb, 0, none⟩)] V fun e w' => e = .returned (.int .i64 (sideN N.ps f t : Int)) ∧ Same V w') := fun V f t hp hi hft ht => by
    have e1 := hi f _ (pile_at N.ps (by omega))
    have e2 := hi t _ (pile_at N.ps ht)
    rw [Nat.zero_add] at e1 e2
    exact side_calls V hp e1 e2 hft (by omega) (by omega) (pairs_take_le N.ps hft) (by have := pairs_le (N.ps.take t) (fun y hy => HK.out y (List.mem_of_mem_take hy)); rw [List.length_take] at this; omega)
  gi_wp2
  gi_loopw [7] (fun iv wr => ∃ m : Nat, iv = .int .i64 (m : Int) ∧ 1 ≤ m ∧ m - 1 ≤ N.ps.length - 1 ∧ Hid (J (cutsN N.ps (m - 1)) wr) ∧ Hid (wr.cell? ⟨cb, 0, none⟩ = some (.slice (some ⟨g, 0, none⟩) (N.ps.length + 1) c)) ∧ Hid (IAt wr g 0 (pileN N.ps N.ps.length)))
    (fun iv _ => (N.ps.length - (intOf iv).toNat))
  case atStart => exact ⟨1, rfl, by omega, by omega, h2, hpc, hpi⟩
  case round =>
    obtain ⟨m, rfl, hm1, hm2, HJ, HPc, HPi⟩ := hrel
    by_cases hgo : m + 1 ≤ N.ps.length
    · have b1 : (m : Int) ≤ (N.ps.length : Int) - 1 := by omega
      have HL : Hid (cutsN N.ps (m - 1 + 1) = cutsN N.ps (m - 1) ++ [(m, sideN N.ps 0 m, sideN N.ps m N.ps.length)]) := by
        show _ = _
        rw [cuts_succ, Nat.sub_add_cancel hm1]
      gi_wp2
      refine ⟨trivial, (callsIn_wide.2 (HSD.out wr 0 m HPc.out HPi.out (by omega) (by omega))).mono ?_⟩
      rintro e V1 ⟨rfl, q1⟩
      gi_wp2
      refine ⟨trivial, (callsIn_wide.2 (HSD.out V1 m N.ps.length (q1.keep HPc.out) (HPi.out.same q1) (by omega) (by omega))).mono ?_⟩
      rintro e V2 ⟨rfl, q2⟩
      have q3 := Same.trans q1 q2
      obtain ⟨fn, tmps, assign, body, hy, hR⟩ := hY (cutsN N.ps (m - 1)) (m, sideN N.ps 0 m, sideN N.ps m N.ps.length) V2 (hJ _ _ _ HJ.out q3) (by rw [cuts_len]; omega)
      dsimp only [cutV] at hy
      gi_wp2
      refine hR.mono ?_
      rintro e W' (⟨rfl, hJ', hk'⟩ | ⟨rfl, hJx'⟩)
      · gi_wp2
        go_roundw
        case rel => exact ⟨m + 1, by go_num, by omega, by omega, by rw [show m + 1 - 1 = m - 1 + 1 from by omega, HL.out]; exact hJ', hk' _ _ (by simp only; omega) (by simp only; omega) (q3.keep HPc.out), fun j x hx => hk' _ _ (by simp only; omega) (by simp only; omega) ((HPi.out.same q3) j x hx)⟩
        case measure => simp [intOf]; omega
      · gi_wp2
        refine bodyPost_ret (results_none rfl _ _ _) rfl ?_
        exact ⟨⟨_, rfl⟩, .inr ⟨_, by rw [← HL.out]; exact cuts_prefix _ (by omega), hJx'⟩⟩
    · have b1 : ¬ (m : Int) ≤ (N.ps.length : Int) - 1 := by omega
      gi_wp2
      go_end0
      refine ⟨⟨_, rfl⟩, .inl ?_⟩
      rw [show N.ps.length - 1 = m - 1 from by omega]; exact HJ.out
end Go.Proofs.Ytmgkdnejjemfeaa
