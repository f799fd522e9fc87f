/- Split in all its ways, whole: zero halves with an error, or halves that stand in order and make the node. -/
import Derived.Test.YteddbkbfnafbpaaFJ
import Derived.Test.YteddbkbfnafbpaaKJ
namespace Go.Proofs.Yteddbkbfnafbpaa
open Go.RowKit

/-- Two halves of a node, and what stands between them. -/
structure CutOf (p q : Int) (N N1 N2 : Nd) (sp : ByteArray) : Prop where
  c1 : chkN p q N1 = 0
  c2 : chkN p q N2 = 0
  s1 : NdSmall N1
  s2 : NdSmall N2
  k1 : ∀ x ∈ N1.ks, KidOk x
  k2 : ∀ x ∈ N2.ks, KidOk x
  z1 : 1 ≤ sp.size
  z2 : (sp.size : Int) ≤ p / 16
  kind : (N.ks.length = 0 ∧ N1.ks = [] ∧ N2.ks = [] ∧ N1.ss = [] ∧ N2.ss = [] ∧ N.ss = [] ∧ N.ks = [] ∧ N.ps = N1.ps ++ N2.ps ∧ (∀ x ∈ N1.ps, Op.bytesLess x.1.toList sp.toList = true) ∧ (∃ y l, N2.ps = y :: l ∧ Op.bytesLess y.1.toList sp.toList = false)) ∨
    (0 < N1.ks.length ∧ 0 < N2.ks.length ∧ N1.ps = [] ∧ N2.ps = [] ∧ N.ps = [] ∧ N.ss = N1.ss ++ sp :: N2.ss ∧ N.ks = N1.ks ++ N2.ks ∧ (∃ x, N1.ss[N1.ss.length - 1]? = some x ∧ 0 < N1.ss.length ∧ Op.bytesLess x.toList sp.toList = true) ∧ (∃ y, N2.ss[0]? = some y ∧ Op.bytesLess sp.toList y.toList = true))
def CutIs (B : Nat) (N1 N2 : Nd) (sp : ByteArray) (e : Ending) (w' : World) : Prop := ∃ r1 r2, e = .returned (.tuple #[.agg (halvesN r1 r2 N1 N2 sp), .int .i64 0]) ∧ MadeNd w' B r1 N1 ∧ MadeNd w' B r2 N2
def NoCutIs (e : Ending) : Prop := ∃ E, E ≠ 0 ∧ e = .returned (.tuple #[.agg #[.slice none 0 0, .slice none 0 0, .slice none 0 0, .string ⟨#[]⟩, .slice none 0 0, .slice none 0 0, .slice none 0 0], .int .i64 E])
theorem best_branch_range1 (K n : Nat) (ss : List ByteArray) : (bestS (cutsB K n ss (n - 3)) (0, 0)).1 = 0 ∨ ∃ m, (bestS (cutsB K n ss (n - 3)) (0, 0)).1 = m + 1 ∧ 1 ≤ m ∧ m + 3 ≤ n := by
  rcases best_mem (cutsB K n ss (n - 3)) (0, 0) with h | ⟨x, hx, h⟩
  · exact Or.inl h
  · unfold cutsB at hx
    obtain ⟨j, hj, rfl⟩ := List.mem_map.1 hx
    rw [List.mem_range] at hj
    exact Or.inr ⟨j + 1, h, by omega, by omega⟩
theorem split_full {N : Nd} {p q : Int} (hs : NdSmall N) (hk : ∀ x ∈ N.ks, KidOk x) :
    (∀ (r : Nr) (w : World), NdAt w r N → NdRoom r N → Calls Try.prog 26 #[frameV p q, ndV r N] w fun e w' => NoCutIs e ∧ Same w w') ∨
    (frameP p q = true ∧ chkN p q N = 0 ∧ ∃ N1 N2 sp, CutOf p q N N1 N2 sp ∧ ∀ (r : Nr) (w : World), NdAt w r N → NdRoom r N → Calls Try.prog 26 #[frameV p q, ndV r N] w fun e w' => CutIs w.heap.size N1 N2 sp e w' ∧ Same w w') := by
  obtain ⟨l1, l2, l3, _, hop⟩ := hs.lens
  have hos : ∀ x ∈ N.ss, x.size ≤ 1048576 := fun x hx => by
    have := mem_le_sum (fun x : ByteArray => x.size + 1) N.ss x hx
    have := hs.hs
    omega
  by_cases hc : chkN p q N = 0
  · obtain ⟨hf, _⟩ := chk_zero hc
    obtain ⟨hp, q1, q2⟩ := frameP_cases hf
    have HA := fun W => asked_calls (p := p) (q := q) W hf
    by_cases hk0 : N.ks.length = 0
    · obtain ⟨es, ek, _, hri, hlo⟩ := chk_leaf hc hk0
      obtain ⟨ps, ss, ks⟩ := N
      simp only at es ek hk0 hri hlo hop l1
      subst es; subst ek
      rcases best_leaf_range ps with hb | ⟨m, hb, hm⟩
      · left
        intro r w h hr
        have HC := fun W (s : Same w W) => check_calls p q W (h.same s)
        rw [hc] at HC
        have HB := fun W (s : Same w W) => best_leaf W (h.same s) l1 l2 rfl hc hop
        rw [hb] at HB
        refine (split_nocut w HC HA HB).mono ?_
        rintro e w' ⟨rfl, s⟩
        exact ⟨⟨82, by decide, rfl⟩, s⟩
      · right
        obtain ⟨x, hx⟩ : ∃ x, ps[m]? = some x := ⟨_, List.getElem?_eq_getElem (by omega)⟩
        obtain ⟨y, hy⟩ : ∃ y, ps[m + 1]? = some y := ⟨_, List.getElem?_eq_getElem hm⟩
        have hless := rises_adj _ _ m x.1 y.1 hri (by rw [List.getElem?_map, hx]; rfl) (by rw [List.getElem?_map, hy]; rfl)
        have t1 : (ps.take (m + 1)).length = m + 1 := by rw [List.length_take]; omega
        have t2 : (ps.drop (m + 1)).length = ps.length - (m + 1) := List.length_drop
        obtain ⟨s1, s2⟩ := small_leaf_take hs (m + 1)
        obtain ⟨C, sx, sy, hC, hCl, hsx, _, hsz, ⟨g1, g2⟩, g3, _⟩ := sep_facts hless
        have hsp : sepB x.1 y.1 = sx := by unfold sepB; rw [hsx, hC]
        have hxs : Op.bytesLess x.1.toList sx.toList = true := below_of (by rw [g1, g2]; rfl)
        have hsy := rises_sizes _ _ hri y.1 (List.mem_map.2 ⟨y, List.mem_of_getElem? hy, rfl⟩)
        have gm : ∀ i (z : ByteArray × ByteArray), ps[i]? = some z → (ps.map (·.1))[i]? = some z.1 := fun i z h => by rw [List.getElem?_map, h]; rfl
        have co : CutOf p q ⟨ps, [], []⟩ ⟨ps.take (m + 1), [], []⟩ ⟨ps.drop (m + 1), [], []⟩ (sepB x.1 y.1) := by
          refine ⟨leaf_chk hf (by rw [List.map_take]; exact rises_take _ _ _ hri) (fun z hz => hlo z (List.mem_of_mem_take hz)), leaf_chk hf (by rw [List.map_drop]; exact rises_drop _ _ _ hri) (fun z hz => hlo z (List.mem_of_mem_drop hz)), s1, s2, by simp, by simp, by rw [hsp]; omega, by rw [hsp]; omega, Or.inl ⟨rfl, rfl, rfl, rfl, rfl, rfl, rfl, (List.take_append_drop _ _).symm, fun z hz => ?_, ⟨y, ps.drop (m + 2), ?_, ?_⟩⟩⟩
          · rw [hsp]
            obtain ⟨i, hi⟩ := List.mem_iff_getElem?.1 hz
            have hi2 : i < m + 1 := by
              have := (List.getElem?_eq_some_iff.1 hi).1
              rw [List.length_take] at this; omega
            rw [List.getElem?_take_of_lt hi2] at hi
            by_cases him : i = m
            · subst him
              rw [hx] at hi
              cases hi
              exact hxs
            · exact less_trans (rises_lt _ _ i m z.1 x.1 hri (gm _ _ hi) (gm _ _ hx) (by omega)) hxs
          · show ps.drop (m + 1) = y :: ps.drop (m + 2)
            rw [List.drop_eq_getElem_cons hm]
            congr 1
            exact (List.getElem?_eq_some_iff.1 hy).2
          · rw [hsp]
            rcases g3 with g3 | ⟨_, g3⟩
            · cases hb2 : Op.bytesLess y.1.toList sx.toList with
              | false => rfl
              | true => rw [← less_self sx.toList]; exact (less_trans g3 hb2).symm
            · have g3' : sx.toList = y.1.toList := by simpa using g3
              rw [g3']; exact less_self _
        refine ⟨hf, hc, _, _, _, co, fun r w h hr => ?_⟩
        have HC := fun W (s : Same w W) => check_calls p q W (h.same s)
        rw [hc] at HC
        have HB := fun W (s : Same w W) => best_leaf W (h.same s) l1 l2 rfl hc hop
        rw [hb] at HB
        have HH := fun W (s : Same w W) => halved_good W (h.same s).hp rfl hx hy l1 hr.cp hr.p0 hr.p3 hless (hop x (List.mem_of_getElem? hx)).1
        refine (split_leaf w rfl HC HA HB HH).mono ?_
        rintro e w' ⟨ao1, c1, ao2, c2, rfl, o1, o2, s⟩
        refine ⟨⟨⟨ao1, 0, 0, c1, none, 0, 0, 0, none, 0, 0, 0⟩, ⟨ao2, 0, 0, c2, none, 0, 0, 0, none, 0, 0, 0⟩, ?_, ⟨?_, own_nil, own_nil⟩, ⟨?_, own_nil, own_nil⟩⟩, s⟩
        · unfold halvesN halvesV
          rw [t1, t2]
          rfl
        · rw [t1]; exact o1
        · rw [t2]; exact o2
    · obtain ⟨_, hss, hk2⟩ := chk_branch hc (by omega)
      obtain ⟨ep, hri, hlo⟩ := branch_parts hc (by omega)
      obtain ⟨ps, ss, ks⟩ := N
      simp only at ep hss hk2 hk0 hri hlo hos l2 l3 hk
      subst ep
      obtain ⟨K, hK⟩ : ∃ K : Nat, (K : Int) = 4 + q := ⟨(4 + q).toNat, by omega⟩
      rcases best_branch_range1 K ks.length ss with hb | ⟨m, hb, hm1, hm⟩
      · left
        intro r w h hr
        have HC := fun W (s : Same w W) => check_calls p q W (h.same s)
        rw [hc] at HC
        have HB := fun W (s : Same w W) => best_branch (K := K) W (h.same s) l1 l2 l3 hk2 hss hc hos q1 q2 hK
        simp only at HB
        rw [hb] at HB
        refine (split_nocut w HC HA HB).mono ?_
        rintro e w' ⟨rfl, s⟩
        exact ⟨⟨82, by decide, rfl⟩, s⟩
      · right
        obtain ⟨sp, hx⟩ : ∃ x, ss[m]? = some x := ⟨_, List.getElem?_eq_getElem (by omega)⟩
        obtain ⟨a, ha⟩ : ∃ x, ss[m - 1]? = some x := ⟨_, List.getElem?_eq_getElem (by omega)⟩
        obtain ⟨b, hbb⟩ : ∃ x, ss[m + 1]? = some x := ⟨_, List.getElem?_eq_getElem (by omega)⟩
        have t1 : (ks.take (m + 1)).length = m + 1 := by rw [List.length_take]; omega
        have t2 : (ks.drop (m + 1)).length = ks.length - (m + 1) := List.length_drop
        have t3 : (ss.take m).length = m := by rw [List.length_take]; omega
        have t4 : (ss.drop (m + 1)).length = ss.length - (m + 1) := List.length_drop
        obtain ⟨s1, _⟩ := small_branch_take hs m (m + 1)
        obtain ⟨_, s2⟩ := small_branch_take hs (m + 1) (m + 1)
        have hsz := rises_sizes _ _ hri sp (List.mem_of_getElem? hx)
        have co : CutOf p q ⟨[], ss, ks⟩ ⟨[], ss.take m, ks.take (m + 1)⟩ ⟨[], ss.drop (m + 1), ks.drop (m + 1)⟩ sp := by
          refine ⟨branch_chk hf (rises_take _ _ _ hri) (fun z hz => hlo z (List.mem_of_mem_take hz)) (by omega) (by omega), branch_chk hf (rises_drop _ _ _ hri) (fun z hz => hlo z (List.mem_of_mem_drop hz)) (by omega) (by omega), s1, s2, fun z hz => hk z (List.mem_of_mem_take hz), fun z hz => hk z (List.mem_of_mem_drop hz), hsz.1, hsz.2, Or.inr ⟨by show 0 < (ks.take (m + 1)).length; omega, by show 0 < (ks.drop (m + 1)).length; omega, rfl, rfl, rfl, ?_, (List.take_append_drop _ _).symm, ⟨a, ?_, by show 0 < (ss.take m).length; omega, rises_adj _ _ (m - 1) a sp hri ha (by rw [Nat.sub_add_cancel hm1]; exact hx)⟩, ⟨b, ?_, rises_adj _ _ m sp b hri hx hbb⟩⟩⟩
          · show ss = ss.take m ++ sp :: ss.drop (m + 1)
            have hml : m < ss.length := by omega
            have e : ss.drop m = sp :: ss.drop (m + 1) := by
              rw [List.drop_eq_getElem_cons hml]
              congr 1
              exact (List.getElem?_eq_some_iff.1 hx).2
            rw [← e, List.take_append_drop]
          · show (ss.take m)[(ss.take m).length - 1]? = some a
            rw [t3, List.getElem?_take_of_lt (by omega)]
            exact ha
          · show (ss.drop (m + 1))[0]? = some b
            rw [List.getElem?_drop, Nat.add_zero]
            exact hbb
        refine ⟨hf, hc, _, _, _, co, fun r w h hr => ?_⟩
        have HC := fun W (s : Same w W) => check_calls p q W (h.same s)
        rw [hc] at HC
        have HB := fun W (s : Same w W) => best_branch (K := K) W (h.same s) l1 l2 l3 hk2 hss hc hos q1 q2 hK
        simp only at HB
        rw [hb] at HB
        refine (split_branch w HC HA HB (fun W s => halvedB_good W (h.same s) hr hx (by show m + 1 ≤ ks.length; omega) l2 l3)).mono ?_
        rintro e w' ⟨ao1, c1, ao2, c2, ao3, c3, ao4, c4, rfl, o1, o2, o3, o4, s⟩
        refine ⟨⟨⟨none, 0, 0, 0, ao1, 0, 0, c1, ao2, 0, 0, c2⟩, ⟨none, 0, 0, 0, ao3, 0, 0, c3, ao4, 0, 0, c4⟩, ?_, ⟨own_nil, ?_, ?_⟩, ⟨own_nil, ?_, ?_⟩⟩, s⟩
        · unfold halvesN halvesB
          rw [t1, t2, t3, t4]
          rfl
        · rw [t3]; exact o1
        · rw [t1]; exact o2
        · rw [t4]; exact o3
        · rw [t2]; exact o4
  · left
    intro r w h hr
    have HC := fun W (s : Same w W) => check_calls p q W (h.same s)
    have hE : askE p q (chkN p q N == 0) ≠ 0 := by
      unfold askE
      rw [show (chkN p q N == 0) = false from by simpa using hc]
      split
      · simp
      · decide
    refine (split_asked w (by simpa using hE) HC (fun W => askedG_calls W)).mono ?_
    rintro e w' ⟨rfl, s⟩
    exact ⟨⟨_, hE, rfl⟩, s⟩
end Go.Proofs.Yteddbkbfnafbpaa
