/- Plain: of a leaf that was cut a key lies on the left just if it is below the separator. -/
import Derived.Test.YtmgchfdgmlemdaaVE
import Derived.Test.YtmgchfdgmlemdaaKQ
import Derived.Test.YtmgchfdgmlemdaaKJ
namespace Go.Proofs.Ytmgchfdgmlemdaa
open Go.RowKit

theorem rises_all {mk : Int} : ∀ (l : List ByteArray) (pv : ByteArray), risesP mk pv l = true → ∀ z ∈ l, Op.bytesLess pv.toList z.toList = true
  | [], _, _, z, hz => by simp at hz
  | k :: l, pv, h, z, hz => by
    obtain ⟨h1, _, h3⟩ := rises_cons.1 h
    rcases List.mem_cons.1 hz with rfl | hz
    · exact h1
    · exact less_trans h1 (rises_all l k h3 z hz)
theorem rises_lt {mk : Int} : ∀ (l : List ByteArray) (pv : ByteArray) (i j : Nat) (a b : ByteArray), risesP mk pv l = true → l[i]? = some a → l[j]? = some b → i < j → Op.bytesLess a.toList b.toList = true
  | [], _, i, j, a, b, _, ha, _, _ => by simp at ha
  | k :: l, pv, 0, j, a, b, h, ha, hb, hij => by
    obtain ⟨_, _, h3⟩ := rises_cons.1 h
    obtain ⟨j, rfl⟩ : ∃ t, j = t + 1 := ⟨j - 1, by omega⟩
    simp at ha hb
    subst ha
    exact rises_all l k h3 b (List.mem_of_getElem? hb)
  | k :: l, pv, i + 1, j, a, b, h, ha, hb, hij => by
    obtain ⟨_, _, h3⟩ := rises_cons.1 h
    obtain ⟨j, rfl⟩ : ∃ t, j = t + 1 := ⟨j - 1, by omega⟩
    exact rises_lt l k i j a b h3 (by simpa using ha) (by simpa using hb) (by omega)
theorem rises_take {mk : Int} : ∀ (l : List ByteArray) (pv : ByteArray) (k : Nat), risesP mk pv l = true → risesP mk pv (l.take k) = true
  | _, _, 0, _ => by rw [List.take_zero]; rfl
  | [], _, k + 1, _ => by rw [List.take_nil]; rfl
  | a :: l, pv, k + 1, h => by
    obtain ⟨h1, h2, h3⟩ := rises_cons.1 h
    rw [List.take_succ_cons]
    exact rises_cons.2 ⟨h1, h2, rises_take l a k h3⟩
theorem rises_drop {mk : Int} : ∀ (l : List ByteArray) (pv : ByteArray) (k : Nat), risesP mk pv l = true → risesP mk pv (l.drop k) = true
  | _, _, 0, h => by rw [List.drop_zero]; exact h
  | [], _, k + 1, _ => by rw [List.drop_nil]; rfl
  | a :: l, pv, k + 1, h => by
    obtain ⟨h1, _, h3⟩ := rises_cons.1 h
    rw [List.drop_succ_cons]
    exact rises_drop l pv k (rises_weak h3 h1)
theorem less_irr (a : ByteArray) : Op.bytesLess a.toList a.toList = false := less_self _
theorem less_asym {a b : ByteArray} (h : Op.bytesLess a.toList b.toList = true) : Op.bytesLess b.toList a.toList = false := by
  cases hb : Op.bytesLess b.toList a.toList with
  | false => rfl
  | true => rw [← less_irr a]; exact (less_trans h hb).symm
theorem find_mem {mk : Int} (k : ByteArray) : ∀ (ps : List (ByteArray × ByteArray)) (pv : ByteArray), risesP mk pv (ps.map (·.1)) = true → ((findP k ps 0).2 = true ↔ ∃ z ∈ ps, z.1 = k)
  | [], _, _ => by simp [findP]
  | x :: ps, pv, h => by
    obtain ⟨h1, _, h3⟩ := rises_cons.1 h
    rw [find_cons]
    have ih := find_mem k ps x.1 h3
    rcases cmp_cases x.1 k with ⟨hl, hc⟩ | ⟨he, hc⟩ | ⟨hl, hc⟩
    · rw [hc, if_neg (by decide), if_neg (by decide)]
      rw [ih]
      constructor
      · rintro ⟨z, hz, e⟩; exact ⟨z, List.mem_cons_of_mem _ hz, e⟩
      · rintro ⟨z, hz, e⟩
        rcases List.mem_cons.1 hz with rfl | hz
        · rw [e, less_irr] at hl; cases hl
        · exact ⟨z, hz, e⟩
    · rw [hc, if_pos rfl]
      exact ⟨fun _ => ⟨x, List.mem_cons_self, he⟩, fun _ => rfl⟩
    · rw [hc, if_neg (by decide), if_pos rfl]
      refine ⟨fun e => (by cases e), ?_⟩
      rintro ⟨z, hz, e⟩
      rcases List.mem_cons.1 hz with rfl | hz
      · rw [e, less_irr] at hl; cases hl
      · have := rises_all _ _ h3 z.1 (List.mem_map.2 ⟨z, hz, rfl⟩)
        rw [e] at this
        rw [less_asym hl] at this
        cases this
theorem way_one (key sp : ByteArray) : wayI key [sp] = if Op.bytesLess key.toList sp.toList = true then 0 else 1 := by
  have e : aboveB key sp = Op.bytesLess key.toList sp.toList := by
    unfold aboveB
    rcases cmp_cases key sp with ⟨h, _⟩ | ⟨h, _⟩ | ⟨h, _⟩
    · have h2 := less_asym h
      have h3 : (sp.toList == key.toList) = false := by
        have := not_below h
        simp only [Bool.or_eq_false_iff] at this
        exact this.2
      rw [h, h2, h3]; rfl
    · subst h
      simp [less_irr]
    · rw [less_asym h, h]; rfl
  unfold wayI firstAt
  rw [List.findIdx?_cons]
  rw [e]
  cases Op.bytesLess key.toList sp.toList <;> simp
/-- What the law asks of a leaf that was cut. -/
theorem ways_plain {mk : Int} {ps : List (ByteArray × ByteArray)} {m : Nat} {x y : ByteArray × ByteArray} (key : ByteArray) (hr : risesP mk ⟨#[]⟩ (ps.map (·.1)) = true) (hx : ps[m]? = some x) (hy : ps[m + 1]? = some y) (hless : Op.bytesLess x.1.toList y.1.toList = true) :
    (findP key ps 0).2 = ((findP key (ps.take (m + 1)) 0).2 || (findP key (ps.drop (m + 1)) 0).2) ∧ ((findP key (ps.take (m + 1)) 0).2 = true → Op.bytesLess key.toList (sepB x.1 y.1).toList = true) ∧ ((findP key (ps.drop (m + 1)) 0).2 = true → Op.bytesLess key.toList (sepB x.1 y.1).toList = false) := by
  have ft := find_mem key (ps.take (m + 1)) ⟨#[]⟩ (by rw [List.map_take]; exact rises_take _ _ _ hr)
  have fd := find_mem key (ps.drop (m + 1)) ⟨#[]⟩ (by rw [List.map_drop]; exact rises_drop _ _ _ hr)
  have fa := find_mem key ps ⟨#[]⟩ hr
  obtain ⟨C, sx, sy, hC, _, hsx, _, _, ⟨g1, g2⟩, g3, _⟩ := sep_facts hless
  have hsp : sepB x.1 y.1 = sx := by unfold sepB; rw [hsx, hC]
  have hxs : Op.bytesLess x.1.toList sx.toList = true := below_of (by rw [g1, g2]; rfl)
  have gm : ∀ i (z : ByteArray × ByteArray), ps[i]? = some z → (ps.map (·.1))[i]? = some z.1 := fun i z h => by rw [List.getElem?_map, h]; rfl
  refine ⟨?_, fun hl => ?_, fun hd => ?_⟩
  · rw [Bool.eq_iff_iff, fa, Bool.or_eq_true, ft, fd]
    constructor
    · rintro ⟨z, hz, e⟩
      rw [← List.take_append_drop (m + 1) ps] at hz
      rcases List.mem_append.1 hz with hz | hz
      · exact Or.inl ⟨z, hz, e⟩
      · exact Or.inr ⟨z, hz, e⟩
    · rintro (⟨z, hz, e⟩ | ⟨z, hz, e⟩)
      · exact ⟨z, List.mem_of_mem_take hz, e⟩
      · exact ⟨z, List.mem_of_mem_drop hz, e⟩
  · obtain ⟨z, hz, rfl⟩ := ft.1 hl
    rw [hsp]
    obtain ⟨i, hi⟩ := List.mem_iff_getElem?.1 hz
    have hi2 : i < m + 1 := by
      have := (List.getElem?_eq_some_iff.1 hi).1
      rw [List.length_take] at this; omega
    rw [List.getElem?_take_of_lt hi2] at hi
    by_cases him : i = m
    · subst him
      rw [hx] at hi
      cases hi
      exact hxs
    · exact less_trans (rises_lt _ _ i m z.1 x.1 hr (gm _ _ hi) (gm _ _ hx) (by omega)) hxs
  · obtain ⟨z, hz, rfl⟩ := fd.1 hd
    rw [hsp]
    obtain ⟨i, hi⟩ := List.mem_iff_getElem?.1 hz
    rw [List.getElem?_drop] at hi
    have hyz : z.1 = y.1 ∨ Op.bytesLess y.1.toList z.1.toList = true := by
      by_cases hi0 : i = 0
      · subst hi0
        rw [Nat.add_zero, hy] at hi
        cases hi
        exact Or.inl rfl
      · exact Or.inr (rises_lt _ _ (m + 1) (m + 1 + i) y.1 z.1 hr (gm _ _ hy) (gm _ _ hi) (by omega))
    have hsz : sx.toList = z.1.toList ∨ Op.bytesLess sx.toList z.1.toList = true := by
      rcases g3 with g3 | ⟨_, g3⟩
      · rcases hyz with e | e
        · rw [e]; exact Or.inr g3
        · exact Or.inr (less_trans g3 e)
      · have g3' : sx.toList = y.1.toList := by simpa using g3
        rcases hyz with e | e
        · rw [e]; exact Or.inl g3'
        · rw [g3']; exact Or.inr e
    rcases hsz with e | e
    · rw [← e]; exact less_self _
    · exact less_asym e
end Go.Proofs.Ytmgchfdgmlemdaa
