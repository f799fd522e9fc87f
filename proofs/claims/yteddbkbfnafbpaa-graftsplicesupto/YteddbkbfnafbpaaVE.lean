/- Split in all its ways. -/
import Derived.Test.YteddbkbfnafbpaaVD
import Derived.Test.YteddbkbfnafbpaaKS
import Derived.Test.YteddbkbfnafbpaaKT
namespace Go.Proofs.Yteddbkbfnafbpaa
open Go.RowKit

theorem best_mem : ∀ (L : List (Nat × Nat × Nat)) (s : Nat × Nat), (bestS L s).1 = s.1 ∨ ∃ x ∈ L, (bestS L s).1 = x.1
  | [], s => Or.inl rfl
  | x :: L, s => by
    rw [bestS]
    split
    · rcases best_mem L (x.1, max x.2.1 x.2.2) with h | ⟨y, hy, h⟩
      · exact Or.inr ⟨x, List.mem_cons_self, h⟩
      · exact Or.inr ⟨y, List.mem_cons_of_mem _ hy, h⟩
    · exact Or.inl rfl
theorem best_leaf_range (ps : List (ByteArray × ByteArray)) : (bestS (cutsN ps (ps.length - 1)) (0, 0)).1 = 0 ∨ ∃ m, (bestS (cutsN ps (ps.length - 1)) (0, 0)).1 = m + 1 ∧ m + 1 < ps.length := by
  rcases best_mem (cutsN ps (ps.length - 1)) (0, 0) with h | ⟨x, hx, h⟩
  · exact Or.inl h
  · unfold cutsN at hx
    obtain ⟨j, hj, rfl⟩ := List.mem_map.1 hx
    rw [List.mem_range] at hj
    exact Or.inr ⟨j, h, by omega⟩
theorem best_branch_range (K n : Nat) (ss : List ByteArray) : (bestS (cutsB K n ss (n - 3)) (0, 0)).1 = 0 ∨ ∃ m, (bestS (cutsB K n ss (n - 3)) (0, 0)).1 = m + 1 ∧ m + 3 ≤ n := by
  rcases best_mem (cutsB K n ss (n - 3)) (0, 0) with h | ⟨x, hx, h⟩
  · exact Or.inl h
  · unfold cutsB at hx
    obtain ⟨j, hj, rfl⟩ := List.mem_map.1 hx
    rw [List.mem_range] at hj
    exact Or.inr ⟨j + 1, h, by omega⟩
theorem mem_le_sum {α : Type} (f : α → Nat) : ∀ (l : List α) (x : α), x ∈ l → f x ≤ (l.map f).sum
  | y :: l, x, h => by
    rw [List.map_cons, List.sum_cons]
    rcases List.mem_cons.1 h with rfl | h
    · omega
    · have := mem_le_sum f l x h; omega
theorem rises_adj {mk : Int} : ∀ (l : List ByteArray) (pv : ByteArray) (m : Nat) (x y : ByteArray), risesP mk pv l = true → l[m]? = some x → l[m + 1]? = some y → Op.bytesLess x.toList y.toList = true
  | [], _, m, x, y, _, hx, _ => by simp at hx
  | k :: l, pv, 0, x, y, h, hx, hy => by
    obtain ⟨_, _, h3⟩ := rises_cons.1 h
    simp at hx hy
    subst hx
    cases l with
    | nil => simp at hy
    | cons z l =>
      simp at hy
      subst hy
      exact (rises_cons.1 h3).1
  | k :: l, pv, m + 1, x, y, h, hx, hy => by
    obtain ⟨_, _, h3⟩ := rises_cons.1 h
    exact rises_adj l k m x y h3 (by simpa using hx) (by simpa using hy)
theorem chk_branch {p q : Int} {N : Nd} (hc : chkN p q N = 0) (hk : 0 < N.ks.length) : frameP p q = true ∧ N.ss.length + 1 = N.ks.length ∧ 2 ≤ N.ks.length := by
  obtain ⟨hf, hs⟩ := chk_zero hc
  have hl : leafB N = false := by
    unfold leafB
    rw [show decide (N.ks.length = 0) = false from decide_eq_false (by omega)]
    simp
  refine ⟨hf, ?_⟩
  unfold shapeP branchP at hs
  rw [hl] at hs
  simp only [Bool.false_eq_true, if_false, Bool.and_eq_true, Bool.not_eq_true', Bool.or_eq_false_iff, decide_eq_false_iff_not] at hs
  omega
/-- Split's ways hang on the node alone: halves of a leaf; or something, with an error or of a branch. -/
def OtherIs (N : Nd) (e : Ending) : Prop := ∃ a0 k0 c0 a1 k1 c1 a2 k2 c2 v3 a4 k4 c4 a5 k5 c5 a6 k6 c6 E, e = .returned (.tuple #[.agg #[.slice a0 k0 c0, .slice a1 k1 c1, .slice a2 k2 c2, .string v3, .slice a4 k4 c4, .slice a5 k5 c5, .slice a6 k6 c6], .int .i64 E]) ∧ (E ≠ 0 ∨ (E = 0 ∧ 0 < N.ks.length))
def LeafIs (B m : Nat) (x y : ByteArray × ByteArray) (N : Nd) (e : Ending) (w' : World) : Prop := ∃ ao1 c1 ao2 c2, e = .returned (.tuple #[.agg (halvesV ao1 ao2 (m + 1) c1 (N.ps.length - (m + 1)) c2 (sepB x.1 y.1)), .int .i64 0]) ∧ w'.ownsRow B 41 2 (.slice ao1 (m + 1) c1) (m + 1) (pcells (N.ps.take (m + 1))) ∧ w'.ownsRow B 41 2 (.slice ao2 (N.ps.length - (m + 1)) c2) (N.ps.length - (m + 1)) (pcells (N.ps.drop (m + 1)))
theorem split_cases {N : Nd} {p q : Int} (h1 : N.ps.length ≤ 1048576) (h2 : N.ss.length ≤ 1048576) (h3 : N.ks.length ≤ 1048576) (hop : ∀ x ∈ N.ps, x.1.size ≤ 1048576 ∧ x.2.size ≤ 1048576) (hos : ∀ x ∈ N.ss, x.size ≤ 1048576) :
    (∀ (r : Nr) (w : World), NdAt w r N → NdRoom r N → Calls Try.prog 26 #[frameV p q, ndV r N] w fun e w' => OtherIs N e ∧ Same w w') ∨
    (chkN p q N = 0 ∧ N.ks.length = 0 ∧ ∃ m x y, N.ps[m]? = some x ∧ N.ps[m + 1]? = some y ∧ Op.bytesLess x.1.toList y.1.toList = true ∧ ∀ (r : Nr) (w : World), NdAt w r N → NdRoom r N → Calls Try.prog 26 #[frameV p q, ndV r N] w fun e w' => LeafIs w.heap.size m x y N e w' ∧ Same w w') := by
  have HCC : ∀ (r : Nr) (w : World), NdAt w r N → ∀ W, Same w W → Calls Try.prog 18 #[frameV p q, ndV r N] W fun e w' => e = .returned (.int .i64 (chkN p q N)) ∧ Same W w' := fun r w h W s => check_calls p q W (h.same s)
  by_cases hc : chkN p q N = 0
  · rw [hc] at HCC
    obtain ⟨hf, _⟩ := chk_zero hc
    have HA := fun W => asked_calls (p := p) (q := q) W hf
    by_cases hk : N.ks.length = 0
    · rcases best_leaf_range N.ps with hb | ⟨m, hb, hm⟩
      · left
        intro r w h hr
        have HB := fun W (s : Same w W) => best_leaf W (h.same s) h1 h2 hk hc hop
        rw [hb] at HB
        refine (split_nocut w (HCC r w h) HA HB).mono ?_
        rintro e w' ⟨rfl, s⟩
        exact ⟨⟨_, _, _, _, _, _, _, _, _, _, _, _, _, _, _, _, _, _, _, _, rfl, Or.inl (by decide)⟩, s⟩
      · right
        obtain ⟨x, hx⟩ : ∃ x, N.ps[m]? = some x := ⟨_, List.getElem?_eq_getElem (by omega)⟩
        obtain ⟨y, hy⟩ : ∃ y, N.ps[m + 1]? = some y := ⟨_, List.getElem?_eq_getElem hm⟩
        obtain ⟨_, _, _, hri, _⟩ := chk_leaf hc hk
        have hless := rises_adj _ _ m x.1 y.1 hri (by rw [List.getElem?_map, hx]; rfl) (by rw [List.getElem?_map, hy]; rfl)
        refine ⟨hc, hk, m, x, y, hx, hy, hless, fun r w h hr => ?_⟩
        have HC := HCC r w h
        have HB := fun W (s : Same w W) => best_leaf W (h.same s) h1 h2 hk hc hop
        rw [hb] at HB
        have HH := fun W (s : Same w W) => halved_good W (h.same s).hp hk hx hy h1 hr.cp hr.p0 hr.p3 hless (hop x (List.mem_of_getElem? hx)).1
        unfold ndV at HC HB HH
        rw [hk] at HC HB HH
        refine (split_leaf w hk HC HA HB HH).mono ?_
        rintro e w' ⟨ao1, c1, ao2, c2, rfl, o1, o2, s⟩
        exact ⟨⟨ao1, c1, ao2, c2, rfl, o1, o2⟩, s⟩
    · left
      intro r w h hr
      obtain ⟨_, hss, hk2⟩ := chk_branch hc (by omega)
      obtain ⟨_, q1, q2⟩ := frameP_cases hf
      have HB := fun W (s : Same w W) => best_branch (K := (4 + q).toNat) W (h.same s) h1 h2 h3 hk2 hss hc hos q1 q2 (by omega)
      rcases best_branch_range (4 + q).toNat N.ks.length N.ss with hb | ⟨m, hb, hm⟩
      · rw [hb] at HB
        refine (split_nocut w (HCC r w h) HA HB).mono ?_
        rintro e w' ⟨rfl, s⟩
        exact ⟨⟨_, _, _, _, _, _, _, _, _, _, _, _, _, _, _, _, _, _, _, _, rfl, Or.inl (by decide)⟩, s⟩
      · rw [hb] at HB
        obtain ⟨sp, hx⟩ : ∃ x, N.ss[m]? = some x := ⟨_, List.getElem?_eq_getElem (by omega)⟩
        refine (split_branch w (HCC r w h) HA HB (fun W s => halvedB_good W (h.same s) hr hx (by omega) h2 h3)).mono ?_
        rintro e w' ⟨ao1, c1, ao2, c2, ao3, c3, ao4, c4, rfl, _, _, _, _, s⟩
        exact ⟨⟨_, _, _, _, _, _, _, _, _, _, _, _, _, _, _, _, _, _, _, _, rfl, Or.inr ⟨rfl, by omega⟩⟩, s⟩
  · left
    intro r w h hr
    have hE : askE p q (chkN p q N == 0) ≠ 0 := by
      unfold askE
      rw [show (chkN p q N == 0) = false from by simpa using hc]
      split
      · simp
      · decide
    refine (split_asked w (by simpa using hE) (HCC r w h) (fun W => askedG_calls W)).mono ?_
    rintro e w' ⟨rfl, s⟩
    exact ⟨⟨_, _, _, _, _, _, _, _, _, _, _, _, _, _, _, _, _, _, _, _, rfl, Or.inl hE⟩, s⟩
end Go.Proofs.Yteddbkbfnafbpaa
