/- Cuts$1 of a branch. -/
import Derived.Test.YtmgkdnejjemfeaaKF
import Derived.Test.YtmgkdnejjemfeaaV5
namespace Go.Proofs.Ytmgkdnejjemfeaa
open Go.RowKit Go.Shelf
attribute [local go_sem] Oper.semAt_some

/-- A branch's cuts. -/
def cutsB (K n : Nat) (ss : List ByteArray) (k : Nat) : List (Nat × Nat × Nat) := (List.range k).map fun j => (j + 2, bsideN K ss 0 (j + 2), bsideN K ss (j + 2) n)
theorem cutsB_len (K n : Nat) (ss : List ByteArray) (k : Nat) : (cutsB K n ss k).length = k := by simp [cutsB]
theorem cutsB_succ (K n : Nat) (ss : List ByteArray) (k : Nat) : cutsB K n ss (k + 1) = cutsB K n ss k ++ [(k + 2, bsideN K ss 0 (k + 2), bsideN K ss (k + 2) n)] := by
  unfold cutsB; rw [List.range_succ, List.map_append]; rfl
theorem cutsB_prefix (K n : Nat) (ss : List ByteArray) {i k : Nat} (h : i ≤ k) : cutsB K n ss i <+: cutsB K n ss k := by
  obtain ⟨d, rfl⟩ : ∃ d, k = i + d := ⟨k - i, by omega⟩
  clear h
  induction d with
  | zero => exact List.prefix_refl _
  | succ d ih => rw [← Nat.add_assoc, cutsB_succ]; exact ih.trans (List.prefix_append _ _)
set_option maxRecDepth 100000 in
set_option maxHeartbeats 1000000 in
theorem cutB_in (n : Nat) (hn : 1 ≤ n) (l fb nb B1 B2 : Nat) {r : Nr} {N : Nd} {p q : Int} {K : Nat} (J Jx : List (Nat × Nat × Nat) → World → Prop) (hJ : ∀ pre W W', J pre W → Same W W' → J pre W')
    (hY : ∀ pre x W, J pre W → pre.length < N.ks.length - 3 → YieldAt Fence.wide (n - 1) Try.prog l (cutV x) W fun e W' => (e = .returned (.bool true) ∧ J (pre ++ [x]) W' ∧ KpB B1 B2 W W') ∨ (e = .returned (.bool false) ∧ Jx (pre ++ [x]) W'))
    (W : World) (hf : W.heap[fb]? = some (.cells #[.int .i64 p, .int .i64 q] 23 (0, 0))) (hb : W.heap[nb]? = some (.cells #[.slice r.pa N.ps.length r.cp, .slice r.sa N.ss.length r.cs, .slice r.ka N.ks.length r.ck] 28 (0, 0)))
    (hN : NdAt W r N) (hc : chkN p q N = 0) (hk : 2 ≤ N.ks.length) (hss : N.ss.length + 1 = N.ks.length) (hn1 : N.ks.length ≤ 1048576) (hok : ∀ x ∈ N.ss, x.size ≤ 1048576) (hq1 : 1 ≤ q) (hq2 : q ≤ 32) (hK : (K : Int) = 4 + q) (hB1 : B1 < W.heap.size) (hB2 : B2 < W.heap.size) (h0 : J [] W) :
    CallsIn Fence.wide n Try.prog 21 #[.func (.yield l) #[] #[], .pointer (some ⟨fb, 0, none⟩), .pointer (some ⟨nb, 0, none⟩)] W fun e W' => (∃ v, e = .returned v) ∧ ((∃ ys, ys = cutsB K N.ks.length N.ss (N.ks.length - 3) ∧ J ys W') ∨ (∃ pre, pre <+: cutsB K N.ks.length N.ss (N.ks.length - 3) ∧ Jx pre W')) := by
  have f0 : W.cell? ⟨fb, 0, none⟩ = some (.int .i64 p) := by rw [cell_of_row _ _ _ _ _ _ hf]; rfl
  have f1 : W.cell? ⟨fb, 1, none⟩ = some (.int .i64 q) := by rw [cell_of_row _ _ _ _ _ _ hf]; rfl
  have n0 : W.cell? ⟨nb, 0, none⟩ = some (.slice r.pa N.ps.length r.cp) := by rw [cell_of_row _ _ _ _ _ _ hb]; rfl
  have n1 : W.cell? ⟨nb, 1, none⟩ = some (.slice r.sa N.ss.length r.cs) := by rw [cell_of_row _ _ _ _ _ _ hb]; rfl
  have n2 : W.cell? ⟨nb, 2, none⟩ = some (.slice r.ka N.ks.length r.ck) := by rw [cell_of_row _ _ _ _ _ _ hb]; rfl
  have HC : Hid (∀ V, Same W V → Calls Try.prog 22 #[frameV p q, nodeV r.pa N.ps.length r.cp r.sa N.ss.length r.cs r.ka N.ks.length r.ck] V fun e w' => e = .returned (.int .i64 0) ∧ Same V w') := fun V s => by
    have := check_calls p q V (hN.same s)
    rw [hc] at this; exact this
  have HS : Hid (∀ V, Same W V → Calls Try.prog 23 #[frameV p q, nodeV r.pa N.ps.length r.cp r.sa N.ss.length r.cs r.ka N.ks.length r.ck] V fun e w' => ∃ kb cb, e = .returned (.func (.func 46) #[] #[.pointer (some ⟨kb, 0, none⟩), .pointer (some ⟨cb, 0, none⟩)]) ∧ V.heap.size ≤ cb ∧ V.heap.size ≤ kb ∧ Same V w' ∧ w'.cell? ⟨kb, 0, none⟩ = some (.int .i64 (4 + q)) ∧ (∃ g c, w'.cell? ⟨cb, 0, none⟩ = some (.slice (some ⟨g, 0, none⟩) (N.ss.length + 1) c) ∧ IAt w' g 0 (tpileN N.ss N.ss.length) ∧ V.heap.size ≤ g)) := fun V s => scale_branch (p := p) (q := q) V (hN.same s).hs (by omega) hn1 (by omega) hok hq1 hq2
  have HK : Hid (∀ x ∈ N.ss, x.size ≤ 1048576) := hok
  have hk0 : (0 : Int) < (N.ks.length : Int) := by omega
  clear hf hb hN hc hok
  refine callsIn_of_wp Try.func21 rfl trivial ?_ rfl
  simp only [Try.ntmps21, List.size_toArray, List.length_cons, List.length_nil, Nat.reduceAdd, Nat.reduceSub, Array.replicate_succ, Array.replicate_zero, List.push_toArray, List.append_toArray, List.nil_append, List.cons_append]
  gi_wp2
  refine ⟨trivial, (callsIn_wide.2 (HC.out _ (Fr.refl _ W))).mono ?_⟩
  rintro e W1 ⟨rfl, s1⟩
  have f0 := s1.keep f0
  have f1 := s1.keep f1
  have n0 := s1.keep n0
  have n1 := s1.keep n1
  have n2 := s1.keep n2
  gi_wp2
  refine ⟨trivial, (callsIn_wide.2 (HS.out _ s1)).mono ?_⟩
  rintro e W2 ⟨kb, cb, rfl, hcb, hkb, s2, hkc, g, c, hpc, hpi, hg2⟩
  rw [← hK] at hkc
  have h2 : J [] W2 := hJ _ _ _ h0 (Same.trans s1 s2)
  have hz := (Same.trans s1 s2).size
  clear f0 f1 n0 n1 n2 HC HS
  have hw1 := s1.size
  have hKb : K ≤ 36 := by omega
  have HSS : Hid (N.ss.length + 1 = N.ks.length) := hss
  have HSD : Hid (∀ (V : World) (f t : Nat), V.cell? ⟨kb, 0, none⟩ = some (.int .i64 (K : Int)) → V.cell? ⟨cb, 0, none⟩ = some (.slice (some ⟨g, 0, none⟩) (N.ss.length + 1) c) → IAt V g 0 (tpileN N.ss N.ss.length) → f < t → t ≤ N.ks.length → Calls Try.prog 46 #[.int .i64 (f : Int), .int .i64 (t : Int), .pointer (some ⟨kb, 0, none⟩), .pointer (some ⟨cb, 0, none⟩)] V fun e w' => e = .returned (.int .i64 (bsideN K N.ss f t : Int)) ∧ Same V w') := fun V f t hkk hp hi hft ht => by
    have hss := HSS.out
    obtain ⟨u, rfl⟩ : ∃ u, t = u + 1 := ⟨t - 1, by omega⟩
    have e1 := hi f _ (tpile_at N.ss (by omega))
    have e2 := hi u _ (tpile_at N.ss (by omega))
    rw [Nat.zero_add] at e1 e2
    have hb : textsN (N.ss.take u) ≤ 4398046511104 := by
      have := texts_le (N.ss.take u) (fun y hy => HK.out y (List.mem_of_mem_take hy))
      rw [List.length_take] at this
      omega
    have := bside_calls V hkk hp e1 e2 (by omega) (by omega) (by omega) (texts_take_le N.ss (by omega)) hb hKb
    unfold bsideN
    rw [show u + 1 - 1 = u from rfl]
    exact this
  gi_wp2
  gi_loopw [7] (fun iv wr => ∃ m : Nat, iv = .int .i64 (m : Int) ∧ 2 ≤ m ∧ m - 2 ≤ N.ks.length - 3 ∧ Hid (J (cutsB K N.ks.length N.ss (m - 2)) wr) ∧ Hid (wr.cell? ⟨kb, 0, none⟩ = some (.int .i64 (K : Int))) ∧ Hid (wr.cell? ⟨cb, 0, none⟩ = some (.slice (some ⟨g, 0, none⟩) (N.ss.length + 1) c)) ∧ Hid (IAt wr g 0 (tpileN N.ss N.ss.length)))
    (fun iv _ => (N.ks.length - (intOf iv).toNat))
  case atStart => exact ⟨2, rfl, by omega, by omega, h2, hkc, hpc, hpi⟩
  case round =>
    obtain ⟨m, rfl, hm1, hm2, HJ, HKc, HPc, HPi⟩ := hrel
    by_cases hgo : m + 2 ≤ N.ks.length
    · have b1 : (m : Int) ≤ (N.ks.length : Int) - 2 := by omega
      have HL : Hid (cutsB K N.ks.length N.ss (m - 2 + 1) = cutsB K N.ks.length N.ss (m - 2) ++ [(m, bsideN K N.ss 0 m, bsideN K N.ss m N.ks.length)]) := by
        show _ = _
        rw [cutsB_succ, Nat.sub_add_cancel hm1]
      gi_wp2
      refine ⟨trivial, (callsIn_wide.2 (HSD.out wr 0 m HKc.out HPc.out HPi.out (by omega) (by omega))).mono ?_⟩
      rintro e V1 ⟨rfl, q1⟩
      gi_wp2
      refine ⟨trivial, (callsIn_wide.2 (HSD.out V1 m N.ks.length (q1.keep HKc.out) (q1.keep HPc.out) (HPi.out.same q1) (by omega) (by omega))).mono ?_⟩
      rintro e V2 ⟨rfl, q2⟩
      have q3 := Same.trans q1 q2
      obtain ⟨fn, tmps, assign, body, hy, hR⟩ := hY (cutsB K N.ks.length N.ss (m - 2)) (m, bsideN K N.ss 0 m, bsideN K N.ss m N.ks.length) V2 (hJ _ _ _ HJ.out q3) (by rw [cutsB_len]; omega)
      dsimp only [cutV] at hy
      gi_wp2
      refine hR.mono ?_
      rintro e W' (⟨rfl, hJ', hk'⟩ | ⟨rfl, hJx'⟩)
      · gi_wp2
        go_roundw
        case rel => exact ⟨m + 1, by go_num, by omega, by omega, by rw [show m + 1 - 2 = m - 2 + 1 from by omega, HL.out]; exact hJ', hk' _ _ (by simp only; omega) (by simp only; omega) (q3.keep HKc.out), hk' _ _ (by simp only; omega) (by simp only; omega) (q3.keep HPc.out), fun j x hx => hk' _ _ (by simp only; omega) (by simp only; omega) ((HPi.out.same q3) j x hx)⟩
        case measure => simp [intOf]; omega
      · gi_wp2
        refine bodyPost_ret (results_none rfl _ _ _) rfl ?_
        exact ⟨⟨_, rfl⟩, .inr ⟨_, by rw [← HL.out]; exact cutsB_prefix _ _ _ (by omega), hJx'⟩⟩
    · have b1 : ¬ (m : Int) ≤ (N.ks.length : Int) - 2 := by omega
      gi_wp2
      go_end0
      refine ⟨⟨_, rfl⟩, .inl ?_⟩
      rw [show N.ks.length - 3 = m - 2 from by omega]; exact HJ.out
end Go.Proofs.Ytmgkdnejjemfeaa
