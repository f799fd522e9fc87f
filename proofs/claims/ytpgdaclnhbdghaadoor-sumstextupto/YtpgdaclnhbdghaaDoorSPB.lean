/-
  Walks: SumsText.
-/
import Derived.Test.YtpgdaclnhbdghaaDoorSPA
import Derived.Test.YtpgdaclnhbdghaaDoorSX
namespace Go.Proofs.YtpgdaclnhbdghaaDoor
open Go.RowKit

theorem Lent.same {w W W' : World} {ss : List ByteArray} {g cap : Nat} (h1 : Lent w W ss g cap) (s3 : Same W W') : Lent w W' ss g cap := by
  refine ⟨⟨h1.1.1, ?_⟩, h1.2.1, h1.2.2.trans s3⟩
  rcases h1.1.2 with hh | ⟨a1, a2, a3, a4, a5, a6, a7⟩
  · exact Or.inl hh
  · exact Or.inr ⟨a1, a2, a3, a4, a5, by rw [s3.block a1 (lt_of_heap a6) (fun f => f)]; exact a6, a7⟩

set_option maxRecDepth 100000 in
set_option maxHeartbeats 2000000 in
theorem stext_walk {w : World} (htab : TabAt w) (a : ByteArray) {pa : Option Addr} {pb po pc : Nat} {ss : List ByteArray} (h : SAt w pa pb po ss) (hl : ss.length ≤ 4194304) (hs1 : (textP a ss).length ≤ 70368744177664) (hz1 : ∀ s ∈ ss, s.size < 4294967296) :
    Calls Tryd.prog 3 #[.string a, .slice pa ss.length pc] w fun e w' => e = .returned (.bool true) ∧ Same w w' := by
  have HLA : Hid (Calls Tryd.prog 7 #[.slice pa ss.length pc] w fun e w' => ∃ g cap, e = .returned (.slice (some ⟨g, 0, none⟩) ss.length cap) ∧ Lent w w' ss g cap) := lent_calls h hl
  have HTA : Hid (∀ W g cap, SAt W (some ⟨g, 0, none⟩) g 0 ss → Calls Tryd.prog 8 #[.string a, .slice (some ⟨g, 0, none⟩) ss.length cap] W fun e w' => e = .returned (.tuple #[.string (textS a ss), .int .i64 (textE a)]) ∧ Same W w') := fun W g cap hS => text_any W a ss g cap hS hs1 (by omega)
  have HTR : Hid (∀ W, Same w W → Calls Tryd.prog 9 #[.string a, .slice pa ss.length pc] W fun e w' => e = .returned (.tuple #[.string (textS a ss), .int .i64 (textE a)]) ∧ Same W w') := by
    intro W sW
    unfold textS textE tagB
    by_cases ht : 1 ≤ a.size ∧ a.size ≤ 64
    · rw [if_pos (decide_eq_true ht), if_pos (decide_eq_true ht)]
      exact rtext_calls W a ht ss pa pb po pc (fun e => (h.place e).1) (h.same sW).cells hs1 (by omega)
    · rw [if_neg (by simpa using ht), if_neg (by simpa using ht)]
      refine (rtext_bad W a ht _).mono ?_
      rintro e w' ⟨rfl, rfl⟩
      exact ⟨rfl, Fr.refl _ _⟩
  have HK : Hid (∀ W0 W g cap, Same w W → Lent W0 W ss g cap → Calls Tryd.prog 10 #[.slice (some ⟨g, 0, none⟩) ss.length cap, .slice pa ss.length pc] W fun e w' => e = .returned (.bool true) ∧ Same W w') := fun W0 W g cap sW hLe => kept_calls (h.same sW) hl hLe
  have HPA : Hid (tagB a = true → ∀ W, Calls Tryd.prog 12 #[.string (textS a ss)] W fun e w' => ∃ qa qb qc, e = .returned (.tuple #[.string a, .slice qa ss.length qc, .int .i64 0]) ∧ SAt w' qa qb 0 ss ∧ Same W w') := by
    intro hk W
    unfold textS
    rw [if_pos hk]
    unfold tagB at hk
    simp only [decide_eq_true_eq] at hk
    exact parts_calls W a hk ss hz1 hs1 hl
  have HSM : Hid (∀ W qa qb qc, Same w W → SAt W qa qb 0 ss → Calls Tryd.prog 13 #[.slice qa ss.length qc, .slice pa ss.length pc] W fun e w' => e = .returned (.bool true) ∧ Same W w') := by
    intro W qa qb qc sW hS
    have := same_calls (pc := qc) (qc := pc) hS (h.same sW) hl
    rw [decide_eq_true rfl] at this
    exact this
  have HEA : Hid ((tagB a = true → textE a = 0) ∧ (tagB a = false → textE a = 20)) := ⟨fun h => by unfold textE; rw [if_pos h], fun h => by unfold textE; rw [h]; rfl⟩
  have HT : Hid (TabAt w) := htab
  generalize textS a ss = TA at *
  generalize textE a = EA at *
  generalize tagB a = ka at *
  obtain ⟨n, hn⟩ : ∃ n, n = ss.length := ⟨_, rfl⟩
  rw [← hn] at HLA HTA HTR HK HPA HSM ⊢
  clear h hl hs1 hz1 hn htab
  go_enter Tryd.func3, Tryd.ntmps3
  go_wp2_with fail
  refine HLA.out.mono ?_
  rintro e W1 ⟨g1, cap1, rfl, l1⟩
  have t1 : Same w W1 := l1.2.2
  have HL1 : Hid (Lent w W1 ss g1 cap1) := l1
  have S1 := l1.sat
  clear l1
  go_wp2_with fail
  refine (HTA.out _ _ _ S1).mono ?_
  rintro e W2 ⟨rfl, s2⟩
  have t2 := t1.trans s2
  have HL2 : Hid (Lent w W2 ss g1 cap1) := Lent.same HL1.out s2
  clear S1 t1 s2 HL1
  go_wp2_with fail
  refine (HTR.out _ t2).mono ?_
  rintro e W3 ⟨rfl, s3⟩
  have t3 := t2.trans s3
  have HL3 : Hid (Lent w W3 ss g1 cap1) := Lent.same HL2.out s3
  clear t2 s3 HL2
  rcases ka with _ | _
  · obtain rfl : EA = 20 := HEA.out.2 rfl
    go_wp2_with fail
    refine (HK.out _ _ _ _ t3 HL3.out).mono ?_
    rintro e W4 ⟨rfl, s4⟩
    have t4 := t3.trans s4
    clear t3 s4
    go_wp2_with fail
    refine (awake_calls W4 (HT.out.same t4)).mono ?_
    rintro e W5 ⟨rfl, s5⟩
    go_wp2_with fail
    go_ret
    exact ⟨rfl, t4.trans s5⟩
  · obtain rfl : EA = 0 := HEA.out.1 rfl
    have HP2 := HPA.out rfl
    go_wp2_with fail
    refine (HK.out _ _ _ _ t3 HL3.out).mono ?_
    rintro e W4 ⟨rfl, s4⟩
    have t4 := t3.trans s4
    clear t3 s4
    go_wp2_with fail
    refine (HP2 _).mono ?_
    rintro e W5 ⟨qa, qb, qc, rfl, hS5, s5⟩
    have t5 := t4.trans s5
    clear t4 s5
    go_wp2_with fail
    refine (HSM.out _ _ _ _ t5 hS5).mono ?_
    rintro e W6 ⟨rfl, s6⟩
    have t6 := t5.trans s6
    clear t5 s6 hS5
    go_wp2_with fail
    refine (awake_calls W6 (HT.out.same t6)).mono ?_
    rintro e W7 ⟨rfl, s7⟩
    go_wp2_with fail
    go_ret
    exact ⟨rfl, t6.trans s7⟩
end Go.Proofs.YtpgdaclnhbdghaaDoor
