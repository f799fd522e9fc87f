/- Split of both, side by side. -/
import Derived.Test.YtmgkdnejjemfeaaCDJ
import Derived.Test.YtmgkdnejjemfeaaGO1J
namespace Go.Proofs.Ytmgkdnejjemfeaa
open Go.RowKit

theorem leaf_cutsL (ps : List (ByteArray × ByteArray)) (k : Nat) : cutsL 1 k (fun i => sideN ps 0 i) (fun i => sideN ps i ps.length) = cutsN ps k := rfl
theorem branch_cutsL (K n : Nat) (ss : List ByteArray) (k : Nat) : cutsL 2 k (fun i => bsideN K ss 0 i) (fun i => bsideN K ss i n) = cutsB K n ss k := rfl
theorem leaf_sizes {p q : Int} {ps : List (ByteArray × ByteArray)} (hs : NdSmall ⟨ps, [], []⟩) (hc : chkN p q ⟨ps, [], []⟩ = 0) {i : Nat} (h1 : 1 ≤ i) (h2 : i < ps.length) :
    (sizeV p q ⟨ps.take i, [], []⟩ = (sideN ps 0 i : Int) ∧ NdSmall ⟨ps.take i, [], []⟩) ∧ sizeV p q ⟨ps.drop i, [], []⟩ = (sideN ps i ps.length : Int) ∧ NdSmall ⟨ps.drop i, [], []⟩ := by
  obtain ⟨l1, _, _, _, hop⟩ := hs.lens
  obtain ⟨hf, _⟩ := chk_zero hc
  obtain ⟨_, _, _, hri, hlo⟩ := chk_leaf hc rfl
  simp only at l1 hop hri hlo
  have k1 : chkN p q ⟨ps.take i, [], []⟩ = 0 := leaf_chk hf (by rw [List.map_take]; exact rises_take _ _ _ hri) (fun z hz => hlo z (List.mem_of_mem_take hz))
  have k2 : chkN p q ⟨ps.drop i, [], []⟩ = 0 := leaf_chk hf (by rw [List.map_drop]; exact rises_drop _ _ _ hri) (fun z hz => hlo z (List.mem_of_mem_drop hz))
  have t1 : (ps.take i).length = i := by rw [List.length_take]; omega
  have t2 : (ps.drop i).length = ps.length - i := List.length_drop
  have z1 := size_leaf k1 (by rw [t1]; omega) (fun z hz => hop z (List.mem_of_mem_take hz))
  have z2 := size_leaf k2 (by rw [t2]; omega) (fun z hz => hop z (List.mem_of_mem_drop hz))
  have e1 : 1 + numN (ps.take i).length + pairsN (ps.take i) = sideN ps 0 i := by
    unfold sideN
    rw [t1, show pairsN (ps.take 0) = 0 from rfl]
    rfl
  have e2 : 1 + numN (ps.drop i).length + pairsN (ps.drop i) = sideN ps i ps.length := by
    unfold sideN
    rw [t2, pairsN_drop, List.take_length]
  rw [e1] at z1
  rw [e2] at z2
  obtain ⟨s1, s2⟩ := small_leaf_take hs i
  exact ⟨⟨z1, s1⟩, z2, s2⟩
theorem branch_sizes {p q : Int} {K : Nat} {ss : List ByteArray} {ks : List Kid} (hs : NdSmall ⟨[], ss, ks⟩) (hko : ∀ x ∈ ks, KidOk x) (hc : chkN p q ⟨[], ss, ks⟩ = 0) (hk0 : 0 < ks.length) (hK : (K : Int) = 4 + q) {i : Nat} (h1 : 2 ≤ i) (h2 : i + 2 ≤ ks.length) :
    (sizeV p q ⟨[], ss.take (i - 1), ks.take i⟩ = (bsideN K ss 0 i : Int) ∧ NdSmall ⟨[], ss.take (i - 1), ks.take i⟩) ∧ sizeV p q ⟨[], ss.drop i, ks.drop i⟩ = (bsideN K ss i ks.length : Int) ∧ NdSmall ⟨[], ss.drop i, ks.drop i⟩ := by
  obtain ⟨_, l2, l3, _, _⟩ := hs.lens
  simp only at l2 l3
  have hos : ∀ x ∈ ss, x.size ≤ 1048576 := fun x hx => by
    have := mem_le_sum (fun x : ByteArray => x.size + 1) ss x hx
    have : (ss.map fun x => x.size + 1).sum ≤ 1048576 := hs.hs
    omega
  obtain ⟨hf, _⟩ := chk_zero hc
  obtain ⟨_, hss, _⟩ := chk_branch hc hk0
  obtain ⟨_, hri, hlo⟩ := branch_parts hc hk0
  simp only at hss hri hlo
  have t1 : (ks.take i).length = i := by rw [List.length_take]; omega
  have t2 : (ks.drop i).length = ks.length - i := List.length_drop
  have t3 : (ss.take (i - 1)).length = i - 1 := by rw [List.length_take]; omega
  have t4 : (ss.drop i).length = ss.length - i := List.length_drop
  have ko1 : ∀ x ∈ ks.take i, KidOk x := fun z hz => hko z (List.mem_of_mem_take hz)
  have ko2 : ∀ x ∈ ks.drop i, KidOk x := fun z hz => hko z (List.mem_of_mem_drop hz)
  have k1 : chkN p q ⟨[], ss.take (i - 1), ks.take i⟩ = 0 := branch_chk hf (rises_take _ _ _ hri) (fun z hz => hlo z (List.mem_of_mem_take hz)) (by omega) (by omega)
  have k2 : chkN p q ⟨[], ss.drop i, ks.drop i⟩ = 0 := branch_chk hf (rises_drop _ _ _ hri) (fun z hz => hlo z (List.mem_of_mem_drop hz)) (by omega) (by omega)
  have z1 := size_branch (K := K) k1 (by show 0 < (ks.take i).length; omega) (by show (ks.take i).length ≤ _; omega) (fun z hz => hos z (List.mem_of_mem_take hz)) ko1 hK
  have z2 := size_branch (K := K) k2 (by show 0 < (ks.drop i).length; omega) (by show (ks.drop i).length ≤ _; omega) (fun z hz => hos z (List.mem_of_mem_drop hz)) ko2 hK
  simp only at z1 z2
  have e1 : 1 + numN (ks.take i).length + (ks.take i).length * K + textsN (ss.take (i - 1)) = bsideN K ss 0 i := by
    unfold bsideN
    rw [t1, show textsN (ss.take 0) = 0 from rfl]
    rfl
  have e2 : 1 + numN (ks.drop i).length + (ks.drop i).length * K + textsN (ss.drop i) = bsideN K ss i ks.length := by
    unfold bsideN
    rw [t2, textsN_drop, List.take_of_length_le (show ss.length ≤ ks.length - 1 by omega)]
  rw [e1] at z1
  rw [e2] at z2
  obtain ⟨s1, _⟩ := small_branch_take hs (i - 1) i
  obtain ⟨_, s2⟩ := small_branch_take hs i i
  exact ⟨⟨z1, s1⟩, z2, s2⟩
theorem MadeNd.dsize {W : World} {B : Nat} {r : Nr} {N : Nd} {p q : Int} (m : MadeNd W B r N) (hs : NdSmall N) (hk : ∀ x ∈ N.ks, KidOk x) : Calls Try.prog 19 #[frameV p q, ndV r N] W fun e w' => e = .returned (.int .i64 (sizeV p q N)) ∧ Same W w' := by
  obtain ⟨r', e, ok⟩ := m.nd (q := q) hs hk
  rw [← e]
  exact dsize_calls W ok.at_ (hs.form hk _ _) hs.lens.1 hs.lens.2.1 hs.lens.2.2.1
def pairAt (ps : List (ByteArray × ByteArray)) (i : Nat) : ByteArray × ByteArray := ps[i]?.getD (⟨#[]⟩, ⟨#[]⟩)
theorem pairAt_eq {ps : List (ByteArray × ByteArray)} {i : Nat} {x : ByteArray × ByteArray} (h : ps[i]? = some x) : pairAt ps i = x := by unfold pairAt; rw [h]; rfl
def textAt (ss : List ByteArray) (i : Nat) : ByteArray := ss[i]?.getD ⟨#[]⟩
theorem textAt_eq {ss : List ByteArray} {i : Nat} {x : ByteArray} (h : ss[i]? = some x) : textAt ss i = x := by unfold textAt; rw [h]; rfl
theorem dcutL {p q : Int} {r : Nr} {ps : List (ByteArray × ByteArray)} (hs : NdSmall ⟨ps, [], []⟩) (hc : chkN p q ⟨ps, [], []⟩ = 0) {i : Nat} (h1 : 1 ≤ i) (h2 : i < ps.length) (w : World) (h : NdIn w r ⟨ps, [], []⟩) (hcap : NdCapN r ⟨ps, [], []⟩) :
    Calls Try.prog 18 #[ndV r ⟨ps, [], []⟩, .int .i64 (i : Int)] w fun e w' => ∃ r1 r2, e = .returned (.agg (halvesN r1 r2 ⟨ps.take i, [], []⟩ ⟨ps.drop i, [], []⟩ (sepB (pairAt ps (i - 1)).1 (pairAt ps i).1))) ∧ MadeNd w' w.heap.size r1 ⟨ps.take i, [], []⟩ ∧ MadeNd w' w.heap.size r2 ⟨ps.drop i, [], []⟩ ∧ Same w w' := by
  obtain ⟨l1, _, _, _, hop⟩ := hs.lens
  obtain ⟨_, _, _, hri, _⟩ := chk_leaf hc rfl
  simp only at l1 hop hri
  obtain ⟨x, hx⟩ : ∃ x, ps[i - 1]? = some x := ⟨_, List.getElem?_eq_getElem (by omega)⟩
  obtain ⟨y, hy⟩ : ∃ y, ps[i]? = some y := ⟨_, List.getElem?_eq_getElem h2⟩
  have hless := rises_adj _ _ (i - 1) x.1 y.1 hri (by rw [List.getElem?_map, hx]; rfl) (by rw [List.getElem?_map, show i - 1 + 1 = i by omega, hy]; rfl)
  rw [pairAt_eq hx, pairAt_eq hy]
  exact dcut_leaf (N := ⟨ps, [], []⟩) (m := i - 1) w h hcap (by omega) hx hy l1 (fun W => dleaf_calls _ _ _ _ _ _ _ _ _ W) (fun W => rbetween_more W hless (by have := (hop y (List.mem_of_getElem? hy)).1; omega))
theorem dcutB {p q : Int} {r : Nr} {ss : List ByteArray} {ks : List Kid} (hs : NdSmall ⟨[], ss, ks⟩) (hc : chkN p q ⟨[], ss, ks⟩ = 0) (hk0 : 0 < ks.length) {i : Nat} (h1 : 2 ≤ i) (h2 : i + 2 ≤ ks.length) (w : World) (h : NdIn w r ⟨[], ss, ks⟩) (hcap : NdCapN r ⟨[], ss, ks⟩) :
    Calls Try.prog 18 #[ndV r ⟨[], ss, ks⟩, .int .i64 (i : Int)] w fun e w' => ∃ r1 r2, e = .returned (.agg (halvesN r1 r2 ⟨[], ss.take (i - 1), ks.take i⟩ ⟨[], ss.drop i, ks.drop i⟩ (textAt ss (i - 1)))) ∧ MadeNd w' w.heap.size r1 ⟨[], ss.take (i - 1), ks.take i⟩ ∧ MadeNd w' w.heap.size r2 ⟨[], ss.drop i, ks.drop i⟩ ∧ Same w w' := by
  obtain ⟨_, l2, l3, _, _⟩ := hs.lens
  obtain ⟨_, hss, _⟩ := chk_branch hc hk0
  simp only at l2 l3 hss
  obtain ⟨x, hx⟩ : ∃ x, ss[i - 1]? = some x := ⟨_, List.getElem?_eq_getElem (by omega)⟩
  rw [textAt_eq hx]
  refine dcut_branch (N := ⟨[], ss, ks⟩) (m := i - 1) w h hcap (by omega) hx (by show i < ks.length; omega) (by show i ≤ ss.length; omega) l3 l2 (fun W => ?_)
  have := dleaf_calls r.pa r.sa r.ka 0 r.cp ss.length r.cs ks.length r.ck W
  have e : leafB ⟨[], ss, ks⟩ = false := by
    unfold leafB
    rw [show decide ((⟨[], ss, ks⟩ : Nd).ks.length = 0) = false from decide_eq_false (by show ¬ ks.length = 0; omega)]
    simp
  unfold leafB at e
  simp only at e
  exact this.mono fun e' w' hh => ⟨hh.1.trans (by congr 2), hh.2⟩
end Go.Proofs.Ytmgkdnejjemfeaa
