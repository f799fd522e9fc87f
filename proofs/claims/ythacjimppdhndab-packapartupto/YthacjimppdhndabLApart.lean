/- PackApart's walk: no free number's, text's or list's bytes are the beginning of another one's. -/
import Derived.Test.YthacjimppdhndabWF
import Derived.Test.YthacjimppdhndabWG
import Derived.Test.YthacjimppdhndabWH
import Derived.Test.YthacjimppdhndabQ0
namespace Go.Proofs.Ythacjimppdhndab
open Go.RowKit

theorem StrSl.join {w : World} {v : Value} {ss : List ByteArray} (h : StrSl w v ss) (hl : (textsB ss).length ≤ 900000000000) :
    Calls Try.prog 17 #[v] w fun e w' => e = .returned (.string ⟨(joinB ss).toArray⟩) ∧ Same w w' := by
  obtain ⟨ad, c, rfl, hn, h⟩ := h
  rcases h with rfl | ⟨ab, ao, rfl, hlt, h⟩
  · exact join_none ad c
  · exact join_calls ss ab ao c h hlt hn hl

theorem pre_free (a b : Nat) (ha : a < 18446744073709551616) (hb : b < 18446744073709551616) : decide ((⟨(freeB a).toArray⟩ : ByteArray).data.toList <+: (⟨(freeB b).toArray⟩ : ByteArray).data.toList) = ((a : Int) == (b : Int)) := by
  rw [Bool.eq_iff_iff]
  simp only [decide_eq_true_eq, beq_iff_eq]
  constructor
  · rintro ⟨r, h⟩
    have h' : freeB a ++ r = freeB b ++ [] := by simpa using h
    have := (free_apart ha hb h').1
    omega
  · intro h
    have : a = b := by omega
    subst this
    exact List.prefix_refl _
theorem pre_text (x y : ByteArray) (ha : x.size < 18446744073709551616) (hb : y.size < 18446744073709551616) : decide ((⟨(textB x).toArray⟩ : ByteArray).data.toList <+: (⟨(textB y).toArray⟩ : ByteArray).data.toList) = (x.toList == y.toList) := by
  rw [Bool.eq_iff_iff]
  simp only [decide_eq_true_eq, beq_iff_eq]
  constructor
  · rintro ⟨r, h⟩
    have h' : textB x ++ r = textB y ++ [] := by simpa using h
    rw [(text_apart ha hb h').1]
  · intro h
    have : x = y := by
      rw [Lib.toList_data, Lib.toList_data] at h
      cases x; cases y; congr 1; exact Array.toList_inj.1 h
    subst this
    exact List.prefix_refl _
theorem pre_join (p q : List ByteArray) (hp : ∀ s ∈ p, s.size < 18446744073709551616) (hq : ∀ s ∈ q, s.size < 18446744073709551616) (hpl : p.length < 18446744073709551616) (hql : q.length < 18446744073709551616) : decide ((⟨(joinB p).toArray⟩ : ByteArray).data.toList <+: (⟨(joinB q).toArray⟩ : ByteArray).data.toList) = decide (p = q) := by
  rw [Bool.eq_iff_iff]
  simp only [decide_eq_true_eq]
  constructor
  · rintro ⟨r, h⟩
    have h' : joinB p ++ r = joinB q ++ [] := by simpa using h
    exact (join_apart hp hq hpl hql h').1
  · intro h
    subst h
    exact List.prefix_refl _

theorem four_new (w : World) (o : Obj) (ho : o = .cells #[.bool true, .slice none 0 0] 54) :
    WrAt ((((w.alloc o).alloc o).alloc o).alloc o) w.heap.size none [] ∧ WrAt ((((w.alloc o).alloc o).alloc o).alloc o) (w.heap.size + 1) none [] ∧ WrAt ((((w.alloc o).alloc o).alloc o).alloc o) (w.heap.size + 2) none [] ∧ WrAt ((((w.alloc o).alloc o).alloc o).alloc o) (w.heap.size + 3) none [] ∧
    Same w ((((w.alloc o).alloc o).alloc o).alloc o) ∧ ((((w.alloc o).alloc o).alloc o).alloc o).heap.size = w.heap.size + 4 := by
  subst ho
  have sa : ∀ (v : World) (o : Obj), Fr (fun _ => False) v (v.alloc o) := fun v o => (Fr.refl _ v).alloc o
  refine ⟨(((wr_new w).same (sa _ _)).same (sa _ _)).same (sa _ _), ?_, ?_, ?_, (((sa _ _).alloc _).alloc _).alloc _, by simp⟩
  · have := ((wr_new (w.alloc (.cells #[.bool true, .slice none 0 0] 54))).same (sa _ (.cells #[.bool true, .slice none 0 0] 54))).same (sa _ (.cells #[.bool true, .slice none 0 0] 54))
    simpa using this
  · have := (wr_new ((w.alloc (.cells #[.bool true, .slice none 0 0] 54)).alloc (.cells #[.bool true, .slice none 0 0] 54))).same (sa _ (.cells #[.bool true, .slice none 0 0] 54))
    simpa using this
  · have := wr_new (((w.alloc (.cells #[.bool true, .slice none 0 0] 54)).alloc (.cells #[.bool true, .slice none 0 0] 54)).alloc (.cells #[.bool true, .slice none 0 0] 54))
    simpa using this

set_option maxRecDepth 100000 in
set_option maxHeartbeats 4000000 in
theorem apart_walk (a b : Nat) (ha : a < 18446744073709551616) (hb : b < 18446744073709551616) (x y : ByteArray) (v4 v5 : Value) (p q : List ByteArray) (w : World) (h4 : StrSl w v4 p) (h5 : StrSl w v5 q)
    (hx : x.size ≤ 100000000000) (hy : y.size ≤ 100000000000) (hp : (textsB p).length ≤ 900000000000) (hq : (textsB q).length ≤ 900000000000) (hps : ∀ s ∈ p, s.size < 18446744073709551616) (hqs : ∀ s ∈ q, s.size < 18446744073709551616) :
    Calls Try.prog 4 #[.int .u64 a, .int .u64 b, .string x, .string y, v4, v5] w fun e w' => e = .returned (.bool true) ∧ Below w.heap.size w w' := by
  obtain ⟨t1, E1⟩ : ∃ t, decide ((⟨(freeB a).toArray⟩ : ByteArray).data.toList <+: (⟨(freeB b).toArray⟩ : ByteArray).data.toList) = t := ⟨_, rfl⟩
  obtain ⟨t2, E2⟩ : ∃ t, decide ((⟨(textB x).toArray⟩ : ByteArray).data.toList <+: (⟨(textB y).toArray⟩ : ByteArray).data.toList) = t := ⟨_, rfl⟩
  obtain ⟨t3, E3⟩ : ∃ t, decide ((⟨(joinB p).toArray⟩ : ByteArray).data.toList <+: (⟨(joinB q).toArray⟩ : ByteArray).data.toList) = t := ⟨_, rfl⟩
  have F1 : ((a : Int) == (b : Int)) = t1 := by rw [← pre_free a b ha hb]; exact E1
  have F2 : (x.toList == y.toList) = t2 := by rw [← pre_text x y (by omega) (by omega)]; exact E2
  have hpl : p.length < 18446744073709551616 := by obtain ⟨_, _, _, h, _⟩ := h4; omega
  have hql : q.length < 18446744073709551616 := by obtain ⟨_, _, _, h, _⟩ := h5; omega
  have F3 : decide (p = q) = t3 := by rw [← pre_join p q hps hqs hpl hql]; exact E3
  have H1 : Hid (_ = t1) := E1
  have H2 : Hid (_ = t2) := E2
  have H3 : Hid (_ = t3) := E3
  have H4 : Hid (decide (p = q) = t3) := F3
  clear E1 E2 E3 F3 hpl hql hps hqs
  have hf4 : ∃ ad n c, v4 = .slice ad n c := by obtain ⟨ad, c, h, _⟩ := h4; exact ⟨ad, _, c, h⟩
  have hf5 : ∃ ad n c, v5 = .slice ad n c := by obtain ⟨ad, c, h, _⟩ := h5; exact ⟨ad, _, c, h⟩
  obtain ⟨ad4, n4, c4, rfl⟩ := hf4
  obtain ⟨ad5, n5, c5, rfl⟩ := hf5
  go_enter Try.func4, Try.ntmps4
  go_wp2_with (go_at_call 8; refine (new_calls _).mono ?_; rintro e w' ⟨rfl, rfl⟩)
  obtain ⟨k1, k2, k3, k4, sw, hz⟩ := four_new w _ rfl
  obtain ⟨W0, hW0⟩ : ∃ W0, W0 = (((w.alloc (.cells #[.bool true, .slice none 0 0] 54)).alloc (.cells #[.bool true, .slice none 0 0] 54)).alloc (.cells #[.bool true, .slice none 0 0] 54)).alloc (.cells #[.bool true, .slice none 0 0] 54) := ⟨_, rfl⟩
  rw [← hW0] at k1 k2 k3 k4 sw hz ⊢
  have HZ : Hid (W0.heap.size = w.heap.size + 4) := hz
  clear hW0 hz
  refine (lives_calls W0).mono ?_
  rintro e W1 ⟨rfl, s1⟩
  have k1 := k1.same s1
  have k2 := k2.same s1
  have k3 := k3.same s1
  have k4 := k4.same s1
  have hz1 : w.heap.size + 4 ≤ W1.heap.size := by have := s1.size; have := HZ.out; omega
  have sw : Same w W1 := Fr.trans sw s1 (fun _ _ f => f)
  clear s1 HZ
  go_wp2_with fail
  refine (wfree_calls a ha k1 (by simp)).mono ?_
  rintro e W2 ⟨rfl, g1, k1, s2⟩
  have k2 := k2.other s2 (by omega) (by simp) (by simp)
  have k3 := k3.other s2 (by omega) (by simp) (by simp)
  have k4 := k4.other s2 (by omega) (by simp) (by simp)
  have hg1 : ∀ k, g1 = some k → w.heap.size + 4 ≤ k := fun k hk => by rcases s2.2 k hk with h' | h'; cases h'; omega
  have f2 : Fr (fun k => w.heap.size ≤ k) w W2 := Fr.trans (sw.mono (fun _ _ f => f.elim)) s2.1 (by rintro i hi (e | e); omega; cases e)
  have z2 := s2.1.size
  clear s2 sw
  go_wp2_with fail
  refine (wfree_calls b hb k2 (by simp)).mono ?_
  rintro e W3 ⟨rfl, g2, k2, s3⟩
  have k1 := k1.other s3 (by omega) (by simp) (fun k hk => ⟨by have := hg1 k hk; omega, by simp⟩)
  have k3 := k3.other s3 (by omega) (by simp) (by simp)
  have k4 := k4.other s3 (by omega) (by simp) (by simp)
  have hg2 : ∀ k, g2 = some k → w.heap.size + 4 ≤ k := fun k hk => by rcases s3.2 k hk with h' | h'; cases h'; omega
  have f3 : Fr (fun k => w.heap.size ≤ k) w W3 := Fr.trans f2 s3.1 (by rintro i hi (e | e); omega; cases e)
  have z3 := s3.1.size
  clear s3 f2
  go_wp2_with fail
  refine (wtext_calls x k3 (by simp; omega)).mono ?_
  rintro e W4 ⟨rfl, g3, k3, s4⟩
  have k1 := k1.other s4 (by omega) (by simp) (fun k hk => ⟨by have := hg1 k hk; omega, by simp⟩)
  have k2 := k2.other s4 (by omega) (by simp) (fun k hk => ⟨by have := hg2 k hk; omega, by simp⟩)
  have k4 := k4.other s4 (by omega) (by simp) (by simp)
  have hg3 : ∀ k, g3 = some k → w.heap.size + 4 ≤ k := fun k hk => by rcases s4.2 k hk with h' | h'; cases h'; omega
  have f4 : Fr (fun k => w.heap.size ≤ k) w W4 := Fr.trans f3 s4.1 (by rintro i hi (e | e); omega; cases e)
  have z4 := s4.1.size
  clear s4 f3
  go_wp2_with fail
  refine (wtext_calls y k4 (by simp; omega)).mono ?_
  rintro e W5 ⟨rfl, g4, k4, s5⟩
  have k1 := k1.other s5 (by omega) (by simp) (fun k hk => ⟨by have := hg1 k hk; omega, by simp⟩)
  have k2 := k2.other s5 (by omega) (by simp) (fun k hk => ⟨by have := hg2 k hk; omega, by simp⟩)
  have k3 := k3.other s5 (by omega) (by simp) (fun k hk => ⟨by have := hg3 k hk; omega, by simp⟩)
  have f5 : Fr (fun k => w.heap.size ≤ k) w W5 := Fr.trans f4 s5.1 (by rintro i hi (e | e); omega; cases e)
  clear s5 f4 hg1 hg2 hg3
  have bel5 : Below w.heap.size w W5 := Fr.below f5 (Nat.le_refl _) (fun _ h => h)
  have h4 := h4.frame (Nat.le_refl _) bel5
  have h5 := h5.frame (Nat.le_refl _) bel5
  go_wp2_with fail
  refine (h4.join hp).mono ?_
  rintro e W6 ⟨rfl, s6⟩
  have h5 := h5.same s6
  have h4 := h4.same s6
  have k1 := k1.same s6
  have k2 := k2.same s6
  have k3 := k3.same s6
  have k4 := k4.same s6
  have bel6 : Below w.heap.size w W6 := bel5.trans (Fr.below s6 (by have := bel5.size; omega) (fun _ f => f.elim))
  clear bel5 s6 f5
  go_wp2_with fail
  refine (h5.join hq).mono ?_
  rintro e W7 ⟨rfl, s7⟩
  have h5 := h5.same s7
  have h4 := h4.same s7
  have k1 := k1.same s7
  have k2 := k2.same s7
  have k3 := k3.same s7
  have k4 := k4.same s7
  have bel7 : Below w.heap.size w W7 := bel6.trans (Fr.below s7 (by have := bel6.size; omega) (fun _ f => f.elim))
  clear bel6 s7
  rw [List.nil_append] at k1 k2 k3 k4
  go_wp2_with fail
  refine (wstring_calls k1).mono ?_
  rintro e w' ⟨rfl, rfl⟩
  go_wp2_with fail
  refine (wstring_calls k2).mono ?_
  rintro e w' ⟨rfl, rfl⟩
  go_wp2_with fail
  have B1 := begins_calls W7 ⟨(freeB a).toArray⟩ ⟨(freeB b).toArray⟩
  rw [H1.out] at B1
  refine B1.mono ?_
  clear B1
  rintro e w' ⟨rfl, rfl⟩
  go_wp2_with fail
  refine (wstring_calls k3).mono ?_
  rintro e w' ⟨rfl, rfl⟩
  go_wp2_with fail
  refine (wstring_calls k4).mono ?_
  rintro e w' ⟨rfl, rfl⟩
  go_wp2_with fail
  have B2 := begins_calls W7 ⟨(textB x).toArray⟩ ⟨(textB y).toArray⟩
  rw [H2.out] at B2
  refine B2.mono ?_
  clear B2
  rintro e w' ⟨rfl, rfl⟩
  go_wp2_with fail
  have B3 := begins_calls W7 ⟨(joinB p).toArray⟩ ⟨(joinB q).toArray⟩
  rw [H3.out] at B3
  refine B3.mono ?_
  clear B3
  rintro e w' ⟨rfl, rfl⟩
  go_wp2_with fail
  have B4 := same_calls h4 h5
  rw [H4.out] at B4
  refine B4.mono ?_
  clear B4
  rintro e W8 ⟨rfl, s8⟩
  go_wp2_with fail
  go_ret
  exact ⟨rfl, bel7.trans (Fr.below s8 (by have := bel7.size; omega) (fun _ f => f.elim))⟩
end Go.Proofs.Ythacjimppdhndab
