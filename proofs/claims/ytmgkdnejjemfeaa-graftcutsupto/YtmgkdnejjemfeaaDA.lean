/- Both sides of Cuts: what the document lists, the program's function tells. -/
import Derived.Test.YtmgkdnejjemfeaaCG
import Derived.Test.YtmgkdnejjemfeaaVF
namespace Go.Proofs.Ytmgkdnejjemfeaa
open Go.RowKit Go.Shelf
attribute [local go_sem] Oper.semAt_some

/-- What the function that Cuts answers does with a yield, if its cuts are those of L. -/
def CutIn (fb nb : Nat) (L : List CutN) (W : World) : Prop := ∀ (l B1 B2 : Nat) (J Jx : List (Nat × Nat × Nat) → World → Prop), (∀ pre W W', J pre W → Same W W' → J pre W') →
  (∀ pre x W, J pre W → pre.length < L.length → YieldAt Fence.wide 1 Try.prog l (cutV x) W fun e W' => (e = .returned (.bool true) ∧ J (pre ++ [x]) W' ∧ KpB B1 B2 W W') ∨ (e = .returned (.bool false) ∧ Jx (pre ++ [x]) W')) →
  B1 < W.heap.size → B2 < W.heap.size → J [] W →
  CallsIn Fence.wide 2 Try.prog 21 #[.func (.yield l) #[] #[], .pointer (some ⟨fb, 0, none⟩), .pointer (some ⟨nb, 0, none⟩)] W fun e W' => (∃ v, e = .returned v) ∧ ((∃ ys, ys = L ∧ J ys W') ∨ (∃ pre, pre <+: L ∧ Jx pre W'))
set_option maxRecDepth 100000 in
set_option maxHeartbeats 1000000 in
theorem cut_none {r : Nr} {N : Nd} {p q : Int} (fb nb : Nat) (W : World) (hf : W.heap[fb]? = some (.cells #[.int .i64 p, .int .i64 q] 23 (0, 0))) (hb : W.heap[nb]? = some (.cells #[.slice r.pa N.ps.length r.cp, .slice r.sa N.ss.length r.cs, .slice r.ka N.ks.length r.ck] 28 (0, 0)))
    (hN : NdAt W r N) (hc : chkN p q N ≠ 0) : CutIn fb nb [] W := by
  intro l B1 B2 J Jx hJ hY hB1 hB2 h0
  have f0 : W.cell? ⟨fb, 0, none⟩ = some (.int .i64 p) := by rw [cell_of_row _ _ _ _ _ _ hf]; rfl
  have f1 : W.cell? ⟨fb, 1, none⟩ = some (.int .i64 q) := by rw [cell_of_row _ _ _ _ _ _ hf]; rfl
  have n0 : W.cell? ⟨nb, 0, none⟩ = some (.slice r.pa N.ps.length r.cp) := by rw [cell_of_row _ _ _ _ _ _ hb]; rfl
  have n1 : W.cell? ⟨nb, 1, none⟩ = some (.slice r.sa N.ss.length r.cs) := by rw [cell_of_row _ _ _ _ _ _ hb]; rfl
  have n2 : W.cell? ⟨nb, 2, none⟩ = some (.slice r.ka N.ks.length r.ck) := by rw [cell_of_row _ _ _ _ _ _ hb]; rfl
  have HC : Hid (∀ V, Same W V → Calls Try.prog 22 #[frameV p q, nodeV r.pa N.ps.length r.cp r.sa N.ss.length r.cs r.ka N.ks.length r.ck] V fun e w' => e = .returned (.int .i64 (chkN p q N)) ∧ Same V w') := fun V s => check_calls p q V (hN.same s)
  obtain ⟨E, hE⟩ : ∃ E, E = chkN p q N := ⟨_, rfl⟩
  rw [← hE] at HC hc
  have hc2 : (E == 0) = false := by simpa using hc
  have hc3 : (E != 0) = true := by simpa using hc
  clear hf hb hN hE
  refine callsIn_of_wp Try.func21 rfl trivial ?_ rfl
  simp only [Try.ntmps21, List.size_toArray, List.length_cons, List.length_nil, Nat.reduceAdd, Nat.reduceSub, Array.replicate_succ, Array.replicate_zero, List.push_toArray, List.append_toArray, List.nil_append, List.cons_append]
  gi_wp2
  refine ⟨trivial, (callsIn_wide.2 (HC.out _ (Fr.refl _ W))).mono ?_⟩
  rintro e W1 ⟨rfl, s1⟩
  gi_wp2
  refine bodyPost_ret (results_none rfl _ _ _) rfl ?_
  exact ⟨⟨_, rfl⟩, .inl ⟨_, rfl, hJ _ _ _ h0 s1⟩⟩
set_option maxRecDepth 100000 in
set_option maxHeartbeats 1000000 in
theorem dcuts_none {p q E : Int} {r : Nr} {N : Nd} (w : World) (hE : E ≠ 0)
    (HK : Hid (∀ W, Same w W → Calls Try.prog 16 #[frameV p q, ndV r N] W fun e w' => e = .returned (.int .i64 E) ∧ Same W w')) :
    Calls Try.prog 7 #[frameV p q, ndV r N] w fun e w' => ∃ ao c, e = .returned (.slice ao 0 c) ∧ w'.ownsRow w.heap.size 40 3 (.slice ao 0 c) 0 (ccells []) ∧ Same w w' := by
  obtain ⟨V, hV⟩ : ∃ V, V = (w.alloc (.cells #[.int .i64 p, .int .i64 q] 23)).alloc (.cells #[.slice r.pa N.ps.length r.cp, .slice r.sa N.ss.length r.cs, .slice r.ka N.ks.length r.ck] 28) := ⟨_, rfl⟩
  have t1 : Same w V := by rw [hV]; exact ((Fr.refl _ w).alloc _).alloc _
  have hc2 : (E == 0) = false := by simpa using hE
  have hc3 : (E != 0) = true := by simpa using hE
  unfold ndV nodeV at HK ⊢
  go_enter Try.func7, Try.ntmps7
  go_wp2_with fail
  rw [← hV]
  clear hV
  refine (HK.out _ t1).mono ?_
  rintro e W1 ⟨rfl, s1⟩
  go_wp2_with fail
  go_ret
  exact ⟨none, 0, rfl, own_nil, t1.trans s1⟩
/-- The cuts of a node, on both sides. -/
theorem cuts_both {N : Nd} {p q : Int} (hs : NdSmall N) (hk : ∀ x ∈ N.ks, KidOk x) :
    ∃ L : List CutN, L.length ≤ 1048576 ∧
      (∀ (r : Nr) (w : World), NdIn w r N → NdCapN r N → Calls Try.prog 7 #[frameV p q, ndV r N] w fun e w' => ∃ ao c, e = .returned (.slice ao L.length c) ∧ w'.ownsRow w.heap.size 40 3 (.slice ao L.length c) L.length (ccells L) ∧ Same w w') ∧
      (∀ (W : World) (r : Nr) (fb nb : Nat), W.heap[fb]? = some (.cells #[.int .i64 p, .int .i64 q] 23 (0, 0)) → W.heap[nb]? = some (.cells #[.slice r.pa N.ps.length r.cp, .slice r.sa N.ss.length r.cs, .slice r.ka N.ks.length r.ck] 28 (0, 0)) → NdAt W r N → CutIn fb nb L W) := by
  obtain ⟨l1, l2, l3, _, hop⟩ := hs.lens
  have hos : ∀ x ∈ N.ss, x.size ≤ 1048576 := fun x hx => by
    have := mem_le_sum (fun x : ByteArray => x.size + 1) N.ss x hx
    have := hs.hs
    omega
  by_cases hc : chkN p q N = 0
  · by_cases hk0 : N.ks.length = 0
    · obtain ⟨es, ek, _, hri, hlo⟩ := chk_leaf hc hk0
      obtain ⟨ps, ss, ks⟩ := N
      simp only at es ek hk0 hri hlo hop l1
      subst es; subst ek
      have HCUTS : ∀ (r : Nr) (w : World), NdIn w r ⟨ps, [], []⟩ → NdCapN r ⟨ps, [], []⟩ → ∀ W, Same w W → Calls Try.prog 7 #[frameV p q, ndV r ⟨ps, [], []⟩] W fun e w' => ∃ ao c, e = .returned (.slice ao (ps.length - 1) c) ∧ w'.ownsRow W.heap.size 40 3 (.slice ao (ps.length - 1) c) (ps.length - 1) (ccells (cutsN ps (ps.length - 1))) ∧ Same W w' := fun r w h hcap W s => by
        have HK := fun X (t : Same W X) => dcheck_calls (p := p) (q := q) X ((h.at_.same s).same t) l1 l2 l3
        rw [hc] at HK
        rw [← leaf_cutsL]
        exact dcuts_leaf (N := ⟨ps, [], []⟩) (N1 := fun i => ⟨ps.take i, [], []⟩) (N2 := fun i => ⟨ps.drop i, [], []⟩) (sp := fun i => sepB (pairAt ps (i - 1)).1 (pairAt ps i).1) W rfl l1 HK (fun X => dleaf_calls _ _ _ _ _ _ _ _ _ X) (fun X i t h1 h2 => dcutL hs hc h1 (by omega) X ((h.same s).same t) hcap)
          (fun X B i r' h1 h2 m => by
            have := m.dsize (p := p) (q := q) (leaf_sizes hs hc h1 (by omega)).1.2 (by simp)
            rw [(leaf_sizes hs hc h1 (by omega)).1.1] at this
            exact this)
          (fun X B i r' h1 h2 m => by
            have := m.dsize (p := p) (q := q) (leaf_sizes hs hc h1 (by omega)).2.2 (by simp)
            rw [(leaf_sizes hs hc h1 (by omega)).2.1] at this
            exact this)
      refine ⟨cutsN ps (ps.length - 1), by rw [cuts_len]; omega, fun r w h hcap => ?_, fun W r fb nb hf hb hN => ?_⟩
      · rw [cuts_len]; exact HCUTS r w h hcap w (Fr.refl _ w)
      · intro l B1 B2 J Jx hJ hY hB1 hB2 h0
        rw [cuts_len] at hY
        exact cut_in 2 (by omega) l fb nb B1 B2 J Jx hJ hY W hf hb hN hc rfl l1 hop hB1 hB2 h0
    · obtain ⟨_, hss, hk2⟩ := chk_branch hc (by omega)
      obtain ⟨ep, hri, hlo⟩ := branch_parts hc (by omega)
      have hfr : frameP p q = true := (chk_zero hc).1
      obtain ⟨hp, q1, q2⟩ := frameP_cases hfr
      obtain ⟨ps, ss, ks⟩ := N
      simp only at ep hss hk2 hk0 hri hlo hos l2 l3 hk
      subst ep
      have hk00 : 0 < ks.length := by omega
      obtain ⟨K, hK⟩ : ∃ K : Nat, (K : Int) = 4 + q := ⟨(4 + q).toNat, by omega⟩
      have HLF : ∀ (r : Nr) X, Calls Try.prog 17 #[ndV r ⟨[], ss, ks⟩] X fun e w' => e = .returned (.bool false) ∧ Same X w' := fun r X => by
        refine (dleaf_calls r.pa r.sa r.ka 0 r.cp ss.length r.cs ks.length r.ck X).mono fun e' w' hh => ⟨hh.1.trans ?_, hh.2⟩
        rw [show decide (ks.length = 0) = false from decide_eq_false hk0, Bool.and_false]
      have HCUTS : ∀ (r : Nr) (w : World), NdIn w r ⟨[], ss, ks⟩ → NdCapN r ⟨[], ss, ks⟩ → ∀ W, Same w W → Calls Try.prog 7 #[frameV p q, ndV r ⟨[], ss, ks⟩] W fun e w' => ∃ ao c, e = .returned (.slice ao (ks.length - 3) c) ∧ w'.ownsRow W.heap.size 40 3 (.slice ao (ks.length - 3) c) (ks.length - 3) (ccells (cutsB K ks.length ss (ks.length - 3))) ∧ Same W w' := fun r w h hcap W s => by
        have HK := fun X (t : Same W X) => dcheck_calls (p := p) (q := q) X ((h.at_.same s).same t) l1 l2 l3
        rw [hc] at HK
        rw [← branch_cutsL]
        exact dcuts_branch (N := ⟨[], ss, ks⟩) (N1 := fun i => ⟨[], ss.take (i - 1), ks.take i⟩) (N2 := fun i => ⟨[], ss.drop i, ks.drop i⟩) (sp := fun i => textAt ss (i - 1)) W rfl hk2 l3 l1 HK (HLF r) (fun X i t h1 h2 => dcutB hs hc hk00 h1 (by omega) X ((h.same s).same t) hcap)
          (fun X B i r' h1 h2 m => by
            have := m.dsize (p := p) (q := q) (branch_sizes hs hk hc hk00 hK h1 (by omega)).1.2 (fun z hz => hk z (List.mem_of_mem_take hz))
            rw [(branch_sizes hs hk hc hk00 hK h1 (by omega)).1.1] at this
            exact this)
          (fun X B i r' h1 h2 m => by
            have := m.dsize (p := p) (q := q) (branch_sizes hs hk hc hk00 hK h1 (by omega)).2.2 (fun z hz => hk z (List.mem_of_mem_drop hz))
            rw [(branch_sizes hs hk hc hk00 hK h1 (by omega)).2.1] at this
            exact this)
      refine ⟨cutsB K ks.length ss (ks.length - 3), by rw [cutsB_len]; omega, fun r w h hcap => ?_, fun W r fb nb hf hb hN => ?_⟩
      · rw [cutsB_len]; exact HCUTS r w h hcap w (Fr.refl _ w)
      · intro l B1 B2 J Jx hJ hY hB1 hB2 h0
        rw [cutsB_len] at hY
        exact cutB_in 2 (by omega) l fb nb B1 B2 J Jx hJ hY W hf hb hN hc hk2 hss l3 hos q1 q2 hK hB1 hB2 h0
  · refine ⟨[], by simp, fun r w h hcap => ?_, fun W r fb nb hf hb hN => cut_none fb nb W hf hb hN hc⟩
    exact dcuts_none w hc (fun W s => dcheck_calls (p := p) (q := q) W (h.at_.same s) l1 l2 l3)
end Go.Proofs.Ytmgkdnejjemfeaa
